/-
  basculelaw02.Clash: where two unlike strings of a list have one digest, it answers true.; What LaneMore puts together.; What is short, and each of its strings.
-/
import Derived.Maps.OwnSet
import Derived.DeepKeys5
import Derived.Test.YtebeacejlkiglaaDoorMa1
import Derived.Test.YtebeacejlkiglaaDoorMa5
import Derived.Test.YtebeacejlkiglaaDoorMa6
import Derived.Test.YtebeacejlkiglaaDoorMa7
import Derived.Test.YtebeacejlkiglaaDoorMa12
import Derived.Test.YtebeacejlkiglaaDoorMa13
import Derived.Test.YtebeacejlkiglaaDoorMa14
import Derived.Test.YtebeacejlkiglaaDoorMa17
namespace Go.Proofs.YtebeacejlkiglaaDoor
open Go.RowKit
open Go.Maps (Keyed)
set_option maxRecDepth 100000

theorem mapM_opt {α β : Type} {f : α → Option β} {g : α → β} : ∀ l : List α, (∀ x ∈ l, f x = some (g x)) → l.mapM f = some (l.map g)
  | [], _ => rfl
  | x :: l, h => by rw [List.mapM_cons, h x (by simp), mapM_opt l (fun y hy => h y (by simp [hy]))]; rfl
theorem Tryd.keyRow : (36 : TypeId) < Tryd.prog.types.size := of_decide_eq_true (by kernel_rfl)
theorem Tryd.hashLaw : WideMaps.KeyLaw Tryd.prog 36 := deep_law_laid Tryd.laidOutTrue (m := 2) (by omega) Tryd.keyRow (by kernel_rfl) (by rw [Tryd.underlying36])
theorem Tryd.hashKeyed : Keyed Tryd.prog 36 := Keyed.of_law Tryd.hashLaw
theorem u8_wf {x : Int} (h : 0 ≤ x ∧ x < 256) : (Lit.int .u8 x).wf = true := by
  have : 0 ≤ x ∧ x ≤ 255 := by omega
  simpa [Lit.wf, IntKind.min, IntKind.max, IntKind.signed, IntKind.bits] using this
theorem Tryd.hash_key {F : List Int} (hF : F.length = 32) (bF : Bytes F) : ∃ kl, keyOf Tryd.prog 36 (.agg (hc F).toArray) = some kl := by
  have hsz : Tryd.prog.types.size = (Tryd.prog.types.size - 1) + 1 := by kernel_rfl
  have hl : (hc F).length = 32 := by rw [hc_len, hF]
  have hfm : (Value.agg (hc F).toArray).formed Tryd.prog 36 = true := by
    simp [Value.formed, Tryd.underlying36, show Tryd.prog.cellsOf 36 = 32 by kernel_rfl, hl]
  have hlit : Tryd.prog.keyLits (Tryd.prog.types.size + 1) 36 (hc F) = some (((List.range 32).map fun i => [Lit.int .u8 (F.getD i 0)]).flatten) := by
    unfold Program.keyLits
    simp only [Tryd.underlying36, show Tryd.prog.cellsOf 36 = 32 by kernel_rfl, show Tryd.prog.cellsOf 5 = 1 by kernel_rfl, hl, if_true, Nat.mul_one]
    rw [mapM_opt (g := fun i => [Lit.int .u8 (F.getD i 0)])]
    · rfl
    · intro i hi
      have hi' : i < 32 := by simpa using hi
      have e : ((hc F).drop i).take 1 = [.int .u8 (F.getD i 0)] := by
        apply List.ext_getElem?
        intro j
        rcases j with _ | j
        · simp [hc, List.getD, hF, hi']
        · rw [List.getElem?_eq_none (by simp; omega)]; simp
      rw [e, hsz]
      unfold Program.keyLits
      simp only [Tryd.underlying5]
      have hb := bF (F.getD i 0) (by simp [List.getD, hF, hi'])
      rw [show F.getD i 0 = F[i]?.getD 0 by simp [List.getD]] at hb ⊢
      simp [u8_wf hb]
  refine ⟨.string (keyBytes (((List.range 32).map fun i => [Lit.int .u8 (F.getD i 0)]).flatten)), ?_⟩
  unfold keyOf
  simp only [Tryd.underlying36, hfm, show Tryd.prog.keyType 36 = true by kernel_rfl, Bool.and_self, if_true]
  rw [show (Value.agg (hc F).toArray).cells.toList = hc F by simp [Value.cells], hlit]
  rfl
theorem ownsMap_on {H : Type} {w w' : World} {P : Program} {k : TypeId} {R : Value → Option (DataW H × List MemPlace)} {b n : Nat} {D : DataW H} (h : w.ownsMap P k R b n D) (hb : Below w.heap.size w w') : w'.ownsMap P k R b n D := by
  have := h.lt
  obtain ⟨es, clock, h1, h2⟩ := h
  exact ⟨es, clock, by rw [hb.block _ this]; exact h1, h2⟩
theorem string_inv {H : Type} {P : Program} {e : TypeId} (he : P.underlying e = some .string) {v : Value} {z : DataW H × List MemPlace} (h : plainElem P e v = some z) : ∃ s, v = .string s ∧ z = (.lit (.string s.data.toList), []) := by
  unfold plainElem at h
  rw [he] at h
  cases v <;> simp at h
  exact ⟨_, rfl, h.2.symm⟩
theorem Tryd.zero_str (w : World) : (zeroValue 9).run Tryd.prog w = .ok (.string ⟨#[]⟩) w := by kernel_rfl
theorem cell_grown {w w' : World} {row : Nat} {a : Addr} {v : Value} (hc : w.cell? a = some v) (hg : w.grownBy w' (some row)) (ha : a.block ≠ row) : w'.cell? a = some v := by
  rw [World.cell?_of_block (w := w) (hg.block _ (World.block_lt_of_cell? w a hc) (fun e => ha (Option.some.inj e)))]; exact hc
theorem hash_grown {w w' : World} {row b : Nat} {F : List Int} (h : HashAt w b F) (hg : w.grownBy w' (some row)) (hb : b ≠ row) : HashAt w' b F := by
  unfold HashAt
  rw [hg.block _ (Array.getElem?_eq_some_iff.1 h).1 (fun e => hb (Option.some.inj e))]; exact h
theorem rd_grown {w w' : World} {row : Nat} {v : Value} {xs : List Int} (h : Rd w v xs) (hg : w.grownBy w' (some row)) (hb : xs ≠ [] → ∀ k, v.ownBlock = some k → k ≠ row) : Rd w' v xs :=
  h.chg (Chg.grown hg (S := [row]) (fun k hk => by simp at hk; simp [hk])) (fun hn k hk _ hm => hb hn k hk (by simpa using hm))

theorem gdrew {w w' : World} {row : Option Nat} (h : w.drew.grownBy w' row) : w.grownBy w' row := ⟨h.os, by have := h.tape; exact this, h.output, h.size, h.block⟩
/-- What the map tells behind i strings. -/
structure ClS (w wr : World) (L : List (List Int)) (i : Nat) : Prop where
  below : Below w.heap.size w wr
  map : ∃ D : DataW Unit, wr.ownsMap Tryd.prog 36 (plainElem Tryd.prog 9) w.heap.size i D ∧ ∀ k, k < i → ∀ kl, keyOf Tryd.prog 36 (.agg (hc (sha (L.getD k []))).toArray) = some kl →
    Maps.has D kl = true ∧ D.atKey kl (.lit (.string [])) = .lit (.string (strOfNums (L.getD k [])).data.toList)
theorem ClS.on {w wr w1 : World} {L : List (List Int)} {i : Nat} (h : ClS w wr L i) (hb : Below wr.heap.size wr w1) : ClS w w1 L i := by
  obtain ⟨D, h1, h2⟩ := h.map
  exact ⟨h.below.trans (hb.mono h.below.size), D, ownsMap_on h1 hb, h2⟩
theorem beq_str {s t : ByteArray} : (s.toList == t.toList) = decide (s = t) := by
  by_cases h : s = t
  · subst h; simp
  · rw [decide_eq_false h, beq_eq_false_iff_ne]
    intro e
    rw [Lib.toList_data, Lib.toList_data] at e
    exact h (ByteArray.ext (Array.toList_inj.1 e))

set_option maxHeartbeats 8000000 in
theorem Clash_any {w : World} {v : Value} {L : List (List Int)} (hL : RdL w v L []) (bL : ∀ b ∈ L, Bytes b) (hx : ∀ i, (L.getD i []).length ≤ 100000000000) (hn : L.length ≤ 1000)
    {m n : Nat} (hmn : m < n) (hnl : n < L.length) (hs : sha (L.getD m []) = sha (L.getD n [])) (hne : L.getD m [] ≠ L.getD n []) :
    Calls Tryd.prog 25 #[v] w fun e w' => e = .returned (.bool true) ∧ Below w.heap.size w w' := by
  obtain ⟨q, c, rfl⟩ : ∃ q c, v = .slice q L.length c := by obtain ⟨q, c, e, _⟩ := hL; exact ⟨q, c, e⟩
  have HL := Lib.hid hL
  have BL := Lib.hid bL
  have HX := Lib.hid hx
  have HS := Lib.hid hs
  have HNE := Lib.hid hne
  have H0 : Hid (ClS w (w.alloc (.map #[] 0)) L 0) := ⟨(Below.refl _ _).alloc (Nat.le_refl _) _, .map [], World.ownsMap_made _ _ _ _, fun k hk => by omega⟩
  clear hL bL hx hs hne
  have hmm := @run_makeMap Tryd.prog
  go_enter Tryd.func25, Tryd.ntmps25
  go_wp2_with fail
  go_loopw [4] (fun iv wr => ∃ i : Nat, iv = .int .i64 i ∧ i ≤ n ∧ Hid (ClS w wr L i)) (fun iv _ => L.length - (intOf iv).toNat)
  case atStart => exact ⟨0, rfl, by omega, H0⟩
  case round =>
    clear H0
    obtain ⟨i, rfl, hi, hC⟩ := hrel
    have hlt : i < L.length := by omega
    obtain ⟨b, off, r, mm, kk, -, rfl, -, hc0, rfl, hrd0, -⟩ := HL.out.at hlt
    have hbl := lt_of_cell hc0
    have hc1 := oldW hC.out.below hc0
    have hxl := HX.out i
    have hby : Bytes (L.getD i []) := BL.out _ (by simp [List.getD, hlt])
    have HR := Lib.hid (hrd0.on hC.out.below)
    have hrn : L.getD i [] ≠ [] → ∀ k, (Value.slice r (L.getD i []).length kk).ownBlock = some k → k ≠ w.heap.size := fun hn k hk => by
      obtain ⟨q', c', e', hx'⟩ := hrd0
      rcases hx' with hx' | ⟨b', o', rfl, hx'⟩
      · exact absurd hx' hn
      · simp only [Value.slice.injEq] at e'
        rw [e'.1] at hk
        have : b' = k := by simpa [Value.ownBlock] using hk
        subst this
        have h2 : b' < w.heap.size := lt_of_cell (hx' 0 (List.length_pos_iff.2 hn))
        omega
    have HY0 : Hid (∃ y, L.getD i [] = y) := ⟨_, rfl⟩
    obtain ⟨y, hy⟩ := HY0.out
    rw [hy] at hc1 hxl hby HR hrn
    have HY := Lib.hid hy
    have LF := Lib.hid (sha_len y)
    have BF := Lib.hid (sha_bytes y)
    obtain ⟨F, hF⟩ : ∃ F, sha y = F := ⟨_, rfl⟩
    have HF := Lib.hid hF
    rw [hF] at LF BF
    clear hc0 hrd0 hy HY0
    go_wp2_with fail
    refine (refSum_any HR.out hby (by omega)).mono ?_
    rintro e w3 ⟨rfl, hb3⟩
    rw [hF]
    clear hF
    have C3 := Lib.hid (hC.out.on hb3)
    have c3 := oldW hb3 hc1
    have R3 := Lib.hid (HR.out.on hb3)
    clear hC hc1 HR hb3
    have RZ := HashAt.new w3 zero32
    have hth := RZ.there zero32_len
    have RX := RZ.put zero32_len LF.out
    have BW : Below w3.heap.size w3 ((w3.alloc (.cells (hc zero32).toArray 36)).setCells w3.heap.size 0 (hc F)) := below_setCells' _ (Nat.le_refl _) _ _ ((Below.refl _ _).alloc (Nat.le_refl _) _)
    clear RZ
    have C4 := Lib.hid (C3.out.on BW)
    have R4 := Lib.hid (R3.out.on BW)
    have c4 := oldW BW c3
    have RXh := Lib.hid RX
    have hrow := RX.row LF.out
    obtain ⟨D, hO, hD⟩ := C4.out.map
    have HO := Lib.hid hO
    have HD := Lib.hid hD
    obtain ⟨kl, hkl⟩ := Tryd.hash_key LF.out BF.out
    have HKL := Lib.hid hkl
    obtain ⟨vs, ps, hlook, hvs⟩ := hO.look_ok Tryd.hashKeyed Tryd.underlying82 (Tryd.zero_str _) (plainElem_string Tryd.underlying9 (s := ⟨#[]⟩) (by decide)) hkl
    obtain ⟨s, rfl, hsd⟩ := string_inv Tryd.underlying9 hvs
    have HSD := Lib.hid (congrArg Prod.fst hsd)
    have ca := R4.out.str (P := Tryd.prog) Tryd.underlying42 Tryd.underlying5 Tryd.underlying9
    have hlF := hc_len F
    have hmb : w3.heap.size ≠ w.heap.size := by have := C3.out.below.size; have := hO.lt; have := BW.size; have := C3.out.map; obtain ⟨_, h, _⟩ := this; have := h.lt; omega
    have lF := LF.out
    have z32 := zero32_len
    obtain ⟨hd, hhd⟩ : ∃ hd, Maps.has D kl = hd := ⟨_, rfl⟩
    rw [hhd] at hlook
    have HHD := Lib.hid hhd
    have BWH := Lib.hid (C4.out.below)
    clear hO hD hkl hvs hsd hhd RX c3 R3 C3 hby BW
    by_cases hz : F = zero32
    · have dz : (F == zero32) = true := by rw [hz]; exact beq_self_eq_true _
      clear hz
      go_wp2_with fail
      go_ret
      exact ⟨rfl, BWH.out⟩
    have dz : (F == zero32) = false := by simpa using hz
    clear hz
    have HAS : Hid (D.atKey kl (.lit (.string [])) = .lit (.string s.data.toList)) := HSD.out
    have hin : ¬ (hd = true ∧ s ≠ strOfNums y) → i < n := fun hnc => by
      by_cases hin : i = n
      · exfalso
        subst hin
        have h1 := HD.out m hmn kl (by rw [HS.out, HY.out, HF.out]; exact HKL.out)
        refine hnc ⟨by rw [← HHD.out]; exact h1.1, fun e => ?_⟩
        have h2 := HAS.out
        rw [h1.2, e] at h2
        simp only [DataW.lit.injEq, Lit.string.injEq] at h2
        have h3 : strOfNums (L.getD m []) = strOfNums y := ByteArray.ext (Array.toList_inj.1 h2)
        have h4 := congrArg (fun t : ByteArray => t.data.toList) h3
        simp only [strOfNums_data] at h4
        refine HNE.out ?_
        rw [HY.out]
        exact str_inj (BL.out _ (by simp [List.getD, show m < L.length by omega])) (by rw [← HY.out]; exact BL.out _ (by simp [List.getD, hlt])) h4
      · omega
    by_cases hcl : hd = true ∧ s ≠ strOfNums y
    · obtain ⟨rfl, hse⟩ := hcl
      have ds : (s.toList == (strOfNums y).toList) = false := by rw [beq_str, decide_eq_false hse]
      clear hse
      go_wp2_with fail
      go_ret
      exact ⟨rfl, BWH.out⟩
    have hin2 := hin hcl
    have HCL := Lib.hid hcl
    clear hin hcl
    have HLS : Hid ((strOfNums y).size ≤ maxLen) := by
      show _ ≤ _
      rw [show (strOfNums y).size = y.length by simp [strOfNums, ByteArray.size]]
      unfold maxLen; omega
    have Q : Hid (HashAt ((w3.alloc (.cells (hc zero32).toArray 36)).setCells w3.heap.size 0 (hc F)) w3.heap.size F ∧ ((w3.alloc (.cells (hc zero32).toArray 36)).setCells w3.heap.size 0 (hc F)).cell? ⟨b, off + i, none⟩ = some (.slice r y.length kk) ∧ Rd ((w3.alloc (.cells (hc zero32).toArray 36)).setCells w3.heap.size 0 (hc F)) (.slice r y.length kk) y) := ⟨RXh.out, c4, R4.out⟩
    have NEXT : Hid (∀ w5, ((w3.alloc (.cells (hc zero32).toArray 36)).setCells w3.heap.size 0 (hc F)).grownBy w5 (some w.heap.size) → w5.ownsMap Tryd.prog 36 (plainElem Tryd.prog 9) w.heap.size (i + 1) (D.put kl (.lit (.string (strOfNums y).data.toList))) → ClS w w5 L (i + 1)) := by
      show ∀ _, _
      intro w5 hg ho
      refine ⟨BWH.out.grown hg BWH.out.size (fun k hk => by simp at hk; omega), _, ho, fun k hk kl' hk' => ?_⟩
      have hmap := HO.out.isMap
      by_cases hkk : kl' = kl
      · subst hkk
        have hlit := Tryd.hashKeyed.key HKL.out
        refine ⟨Maps.has_put_same hmap hlit _, ?_⟩
        rw [Maps.atKey_put_same hmap hlit]
        by_cases hki : k = i
        · subst hki; rw [HY.out]
        · have h1 := HD.out k (by omega) kl' hk'
          have hdt : hd = true := by rw [← HHD.out]; exact h1.1
          have hse : s = strOfNums y := Classical.byContradiction fun e => HCL.out ⟨hdt, e⟩
          have h2 := HAS.out
          rw [h1.2, hse] at h2
          exact h2.symm
      · have hki : k ≠ i := fun e => hkk (by
          subst e
          rw [HY.out, HF.out, HKL.out] at hk'
          exact (Option.some.inj hk').symm)
        rw [Maps.has_put_other hkk, Maps.atKey_put_other hkk]
        exact HD.out k (by omega) kl' hk'
    have hdc : hd = false ∨ (hd = true ∧ (s.toList == (strOfNums y).toList) = true) := by
      cases hd with
      | false => exact .inl rfl
      | true => exact .inr ⟨rfl, by rw [beq_str]; exact decide_eq_true (Classical.byContradiction fun e => HCL.out ⟨rfl, e⟩)⟩
    rcases hdc with rfl | ⟨rfl, ds⟩
    · go_wp2_with fail
      clear hlook hrow hth
      generalize (w3.alloc (.cells (hc zero32).toArray 36)).setCells w3.heap.size 0 (hc F) = WX at *
      refine wp_region_held_drew (S := fun W => HashAt W w3.heap.size F ∧ W.cell? ⟨b, off + i, none⟩ = some (.slice r y.length kk) ∧ Rd W (.slice r y.length kk) y) (by kernel_rfl) (Q.out) (fun h0 => ?_)
      refine wpAnyH_take (i := 0) (v := ?_) (by rw [List.getElem?_toArray]; rfl) (by kernel_rfl) (by kernel_rfl) (by kernel_rfl) (by exact fun _ _ _ h => h) (Or.inl ⟨by rfl, ?_⟩) h0 ?_
      rotate_left
      · intro W hW
        go_simp
        all_goals with_reducible rfl
      try simp only [Act.put, List.setIfInBounds_toArray, List.set_cons_zero, List.set_cons_succ]
      refine wpAnyH_take (i := 1) (v := ?_) (by rw [List.getElem?_toArray]; rfl) (by kernel_rfl) (by kernel_rfl) (by kernel_rfl) (by exact fun _ _ _ h => h) (Or.inl ⟨by rfl, ?_⟩) h0 ?_
      rotate_left
      · intro W hW
        have hr := hW.1.row LF.out
        go_simp
        all_goals with_reducible rfl
      try simp only [Act.put, List.setIfInBounds_toArray, List.set_cons_zero, List.set_cons_succ]
      refine wpAnyH_take (i := 2) (v := ?_) (by rw [List.getElem?_toArray]; rfl) (by kernel_rfl) (by kernel_rfl) (by kernel_rfl) (by exact fun _ _ _ h => h) (Or.inl ⟨by rfl, ?_⟩) h0 ?_
      rotate_left
      · intro W hW
        go_simp
        all_goals with_reducible rfl
      try simp only [Act.put, List.setIfInBounds_toArray, List.set_cons_zero, List.set_cons_succ]
      refine wpAnyH_take (i := 3) (v := ?_) (by rw [List.getElem?_toArray]; rfl) (by kernel_rfl) (by kernel_rfl) (by kernel_rfl) (by exact fun _ _ _ h => h) (Or.inl ⟨by rfl, ?_⟩) h0 ?_
      rotate_left
      · intro W hW
        go_simp
        all_goals with_reducible rfl
      try simp only [Act.put, List.setIfInBounds_toArray, List.set_cons_zero, List.set_cons_succ]
      refine wpAnyH_take (i := 4) (v := ?_) (by rw [List.getElem?_toArray]; rfl) (by kernel_rfl) (by kernel_rfl) (by kernel_rfl) (by exact fun _ _ _ h => h) (Or.inl ⟨by rfl, ?_⟩) h0 ?_
      rotate_left
      · intro W hW
        go_simp
        all_goals with_reducible rfl
      try simp only [Act.put, List.setIfInBounds_toArray, List.set_cons_zero, List.set_cons_succ]
      refine wpAnyH_take (i := 5) (v := ?_) (by rw [List.getElem?_toArray]; rfl) (by kernel_rfl) (by kernel_rfl) (by kernel_rfl) (by exact fun _ _ _ h => h) (Or.inl ⟨by rfl, ?_⟩) h0 ?_
      rotate_left
      · intro W hW
        have f1 := hW.2.1
        go_simp
        all_goals with_reducible rfl
      try simp only [Act.put, List.setIfInBounds_toArray, List.set_cons_zero, List.set_cons_succ]
      refine wpAnyH_take (i := 6) (v := ?_) (by rw [List.getElem?_toArray]; rfl) (by kernel_rfl) (by kernel_rfl) (by kernel_rfl) (by exact fun _ _ _ h => h) (Or.inl ⟨by rfl, ?_⟩) h0 ?_
      rotate_left
      · intro W hW
        have ca := (hW.2.2).str (P := Tryd.prog) Tryd.underlying42 Tryd.underlying5 Tryd.underlying9
        go_simp
        all_goals with_reducible rfl
      try simp only [Act.put, List.setIfInBounds_toArray, List.set_cons_zero, List.set_cons_succ]
      refine wpAnyH_ready (rs := [7]) (by kernel_rfl) (by simp) ?_
      refine AllReadyH.cons (by rw [List.getElem?_toArray]; rfl) (fun K hK => ?_) AllReadyH.nil
      rw [if_pos (by rfl)]
      obtain ⟨w5, hrun5, own5, grow5⟩ := (ownsMap_on (H := Unit) HO.out (Below.refl _ _).drew).update Tryd.hashKeyed Tryd.underlying82 (by unfold maxLen; omega) HKL.out (plainElem_string Tryd.underlying9 HLS.out)
      go_wp2_with fail
      refine hK.out _ _ (⟨hash_grown h0.1 grow5 hmb, cell_grown h0.2.1 grow5 (by show b ≠ w.heap.size; omega), rd_grown h0.2.2 grow5 hrn⟩) (fun h5 => ?_)
      clear hK K
      try simp only [Act.put, List.setIfInBounds_toArray, List.set_cons_zero, List.set_cons_succ]
      refine wpAnyH_done (by kernel_rfl) ?_ _
      go_wp2_with fail
      have HN := Lib.hid (NEXT.out w5 (gdrew grow5) own5)
      go_roundw
      case rel => exact ⟨i + 1, by go_num, by omega, HN⟩
      case measure => simp [intOf]; omega
    · go_wp2_with fail
      clear hlook hrow hth
      generalize (w3.alloc (.cells (hc zero32).toArray 36)).setCells w3.heap.size 0 (hc F) = WX at *
      refine wp_region_held_drew (S := fun W => HashAt W w3.heap.size F ∧ W.cell? ⟨b, off + i, none⟩ = some (.slice r y.length kk) ∧ Rd W (.slice r y.length kk) y) (by kernel_rfl) (Q.out) (fun h0 => ?_)
      refine wpAnyH_take (i := 0) (v := ?_) (by rw [List.getElem?_toArray]; rfl) (by kernel_rfl) (by kernel_rfl) (by kernel_rfl) (by exact fun _ _ _ h => h) (Or.inl ⟨by rfl, ?_⟩) h0 ?_
      rotate_left
      · intro W hW
        go_simp
        all_goals with_reducible rfl
      try simp only [Act.put, List.setIfInBounds_toArray, List.set_cons_zero, List.set_cons_succ]
      refine wpAnyH_take (i := 1) (v := ?_) (by rw [List.getElem?_toArray]; rfl) (by kernel_rfl) (by kernel_rfl) (by kernel_rfl) (by exact fun _ _ _ h => h) (Or.inl ⟨by rfl, ?_⟩) h0 ?_
      rotate_left
      · intro W hW
        have hr := hW.1.row LF.out
        go_simp
        all_goals with_reducible rfl
      try simp only [Act.put, List.setIfInBounds_toArray, List.set_cons_zero, List.set_cons_succ]
      refine wpAnyH_take (i := 2) (v := ?_) (by rw [List.getElem?_toArray]; rfl) (by kernel_rfl) (by kernel_rfl) (by kernel_rfl) (by exact fun _ _ _ h => h) (Or.inl ⟨by rfl, ?_⟩) h0 ?_
      rotate_left
      · intro W hW
        go_simp
        all_goals with_reducible rfl
      try simp only [Act.put, List.setIfInBounds_toArray, List.set_cons_zero, List.set_cons_succ]
      refine wpAnyH_take (i := 3) (v := ?_) (by rw [List.getElem?_toArray]; rfl) (by kernel_rfl) (by kernel_rfl) (by kernel_rfl) (by exact fun _ _ _ h => h) (Or.inl ⟨by rfl, ?_⟩) h0 ?_
      rotate_left
      · intro W hW
        go_simp
        all_goals with_reducible rfl
      try simp only [Act.put, List.setIfInBounds_toArray, List.set_cons_zero, List.set_cons_succ]
      refine wpAnyH_take (i := 4) (v := ?_) (by rw [List.getElem?_toArray]; rfl) (by kernel_rfl) (by kernel_rfl) (by kernel_rfl) (by exact fun _ _ _ h => h) (Or.inl ⟨by rfl, ?_⟩) h0 ?_
      rotate_left
      · intro W hW
        go_simp
        all_goals with_reducible rfl
      try simp only [Act.put, List.setIfInBounds_toArray, List.set_cons_zero, List.set_cons_succ]
      refine wpAnyH_take (i := 5) (v := ?_) (by rw [List.getElem?_toArray]; rfl) (by kernel_rfl) (by kernel_rfl) (by kernel_rfl) (by exact fun _ _ _ h => h) (Or.inl ⟨by rfl, ?_⟩) h0 ?_
      rotate_left
      · intro W hW
        have f1 := hW.2.1
        go_simp
        all_goals with_reducible rfl
      try simp only [Act.put, List.setIfInBounds_toArray, List.set_cons_zero, List.set_cons_succ]
      refine wpAnyH_take (i := 6) (v := ?_) (by rw [List.getElem?_toArray]; rfl) (by kernel_rfl) (by kernel_rfl) (by kernel_rfl) (by exact fun _ _ _ h => h) (Or.inl ⟨by rfl, ?_⟩) h0 ?_
      rotate_left
      · intro W hW
        have ca := (hW.2.2).str (P := Tryd.prog) Tryd.underlying42 Tryd.underlying5 Tryd.underlying9
        go_simp
        all_goals with_reducible rfl
      try simp only [Act.put, List.setIfInBounds_toArray, List.set_cons_zero, List.set_cons_succ]
      refine wpAnyH_ready (rs := [7]) (by kernel_rfl) (by simp) ?_
      refine AllReadyH.cons (by rw [List.getElem?_toArray]; rfl) (fun K hK => ?_) AllReadyH.nil
      rw [if_pos (by rfl)]
      obtain ⟨w5, hrun5, own5, grow5⟩ := (ownsMap_on (H := Unit) HO.out (Below.refl _ _).drew).update Tryd.hashKeyed Tryd.underlying82 (by unfold maxLen; omega) HKL.out (plainElem_string Tryd.underlying9 HLS.out)
      go_wp2_with fail
      refine hK.out _ _ (⟨hash_grown h0.1 grow5 hmb, cell_grown h0.2.1 grow5 (by show b ≠ w.heap.size; omega), rd_grown h0.2.2 grow5 hrn⟩) (fun h5 => ?_)
      clear hK K
      try simp only [Act.put, List.setIfInBounds_toArray, List.set_cons_zero, List.set_cons_succ]
      refine wpAnyH_done (by kernel_rfl) ?_ _
      go_wp2_with fail
      have HN := Lib.hid (NEXT.out w5 (gdrew grow5) own5)
      go_roundw
      case rel => exact ⟨i + 1, by go_num, by omega, HN⟩
      case measure => simp [intOf]; omega
end Go.Proofs.YtebeacejlkiglaaDoor
namespace Go.Proofs.YtebeacejlkiglaaDoor
set_option maxRecDepth 100000
open Go.RowKit

theorem list_apart {a b : Int} (ha : 0 ≤ a) (ha2 : a < 18446744073709551616) (hb : 0 ≤ b) (hb2 : b < 18446744073709551616) (hne : a ≠ b) (F G : List Int) : frm (sn listS) [be8 a, F] ≠ frm (sn listS) [be8 b, G] := by
  intro h
  unfold frm blobs at h
  have h1 := List.append_cancel_left h
  simp only [List.flatMap_cons, List.flatMap_nil, List.append_nil, be8_len, List.append_assoc] at h1
  have h2 := List.append_cancel_left h1
  have h3 := (List.append_inj h2 rfl).1
  have h4 := congrArg num h3
  rw [num_be8 ha ha2, num_be8 hb hb2] at h4
  exact hne h4
theorem getD_last {TL : List (List Int)} {x : List Int} : (TL ++ [x]).getD ((TL ++ [x]).length - 1) [] = x := by
  rw [List.length_append, List.length_singleton, Nat.add_sub_cancel]
  simp [List.getD]
/-- What Texts and Along answer, for a walk: n strings, the last one of the top. -/
structure TqS (w w' : World) (q : Option Addr) (n c : Nat) (T : List (List Int)) (x : List Int) : Prop where
  tx : TxS w w' (.slice q n c) T
  len : T.length = n
  pos : 0 < n
  last : T.getD (n - 1) [] = x
theorem TqS.on {w w' w1 : World} {q : Option Addr} {n c : Nat} {T : List (List Int)} {x : List Int} (h : TqS w w' q n c T x) (hb : Below w'.heap.size w' w1) : TqS w w1 q n c T x := ⟨h.tx.on hb, h.len, h.pos, h.last⟩
theorem TextsQ {w : World} {v : Value} {L : List (List Int)} (hL : RdL w v L []) (bL : ∀ b ∈ L, Bytes b) (hn : L.length ≤ 60000) (hx : ∀ i, (L.getD i []).length ≤ 1000000) :
    Calls Tryd.prog 26 #[v] w fun e w' => ∃ q n c T Z, e = .returned (.slice q n c) ∧ TqS w w' q n c T (frm (sn listS) [be8 (L.length : Int), Z]) ∧ n ≤ 2 * L.length + 1 ∧ rtL L = hList L.length Z := by
  refine (Texts_any hL bL hn hx).mono ?_
  rintro e w' ⟨v', TL, Z, rfl, h1, h2, h3⟩
  obtain ⟨q, c, rfl⟩ := h1.len
  exact ⟨q, _, c, _, Z, rfl, ⟨h1, rfl, by rw [List.length_append]; simp, getD_last⟩, by rw [List.length_append]; simp; omega, h2⟩
theorem AlongQ {w : World} {p0 k0 : Nat} {q : Option Addr} {k : Nat} {Ss : List (List Int)} {xs : List Int} {v : Value} (hs : RdHs w q Ss) (ok : HsOk Ss) (hp0 : p0 < k0) (hk0 : k0 ≤ 65536) (hsd : Ss.length = sd 17 p0 k0) (hr : Rd w v xs) (bx : Bytes xs) (hx : xs.length ≤ 4000) :
    Calls Tryd.prog 27 #[v, .agg #[.int .i64 p0, .int .i64 k0, .slice q Ss.length k]] w fun e w' => ∃ q n c T, e = .returned (.slice q n c) ∧ TqS w w' q n c T (frm (sn listS) [be8 (k0 : Int), chk 17 p0 k0 (hItem p0 xs) Ss]) ∧ n ≤ 19 := by
  refine (Along_any hs ok hp0 hk0 hsd hr bx hx).mono ?_
  rintro e w' ⟨v', TL, rfl, h1, h2⟩
  obtain ⟨q, c, rfl⟩ := h1.len
  exact ⟨q, _, c, _, rfl, ⟨h1, rfl, by rw [List.length_append]; simp, getD_last⟩, by rw [List.length_append]; simp; omega⟩
/-- Two lists of strings, each with the top's behind it: where their digests are the same, and they are not, Clash tells it. -/
theorem clash2 {w : World} {v : Value} {wa wb wx : World} {q1 q2 : Option Addr} {n1 n2 c1 c2 : Nat} {T1 T2 : List (List Int)} {A C : List Int} (h1 : TqS wa wx q1 n1 c1 T1 A) (h2 : TqS wb wx q2 n2 c2 T2 C) (hn : n1 + n2 ≤ 1000) (hL : RdL w v (T1 ++ T2) []) (hs : sha A = sha C) (hne : A ≠ C) :
    Calls Tryd.prog 25 #[v] w fun e w' => e = .returned (.bool true) ∧ Below w.heap.size w w' := by
  have p1 := h1.pos
  have p2 := h2.pos
  have l1 := h1.len
  have l2 := h2.len
  have ok : ∀ b ∈ T1 ++ T2, Bytes b ∧ b.length ≤ 2000000 := fun b hb => (List.mem_append.1 hb).elim (h1.tx.ok b) (h2.tx.ok b)
  have e1 : (T1 ++ T2).getD (n1 - 1) [] = A := by
    rw [← h1.last]; simp [List.getD, List.getElem?_append_left (show n1 - 1 < T1.length by omega)]
  have e2 : (T1 ++ T2).getD (n1 + (n2 - 1)) [] = C := by
    rw [← h2.last]; simp [List.getD, List.getElem?_append_right (show T1.length ≤ n1 + (n2 - 1) by omega), l1]
  refine Clash_any hL (fun b hb => (ok b hb).1) (fun i => ?_) (by rw [List.length_append]; omega) (m := n1 - 1) (n := n1 + (n2 - 1)) (by omega) (by rw [List.length_append]; omega) (by rw [e1, e2]; exact hs) (by rw [e1, e2]; exact hne)
  by_cases hi : i < (T1 ++ T2).length
  · have e : (T1 ++ T2).getD i [] = (T1 ++ T2)[i] := by rw [List.getD, List.getElem?_eq_getElem hi]; rfl
    rw [e]
    have := (ok _ (List.getElem_mem hi)).2
    omega
  · have e : (T1 ++ T2).getD i [] = [] := by simp [List.getD, List.getElem?_eq_none (Nat.le_of_not_lt hi)]
    rw [e]; simp
theorem TxS.base {w w1 wr : World} {v : Value} {TL : List (List Int)} (h : TxS w1 wr v TL) (hb : Below w.heap.size w w1) : TxS w wr v TL :=
  ⟨h.ex, fun g hg => Nat.le_trans hb.size (h.fresh g hg), hb.trans (h.below.mono hb.size), h.ok⟩
theorem PtS.txs {w w' : World} {L : List (List Int)} {v : Value} {vs : List Value} (h : PtS w w' L L.length v vs) (bL : ∀ b ∈ L, Bytes b) (hx : ∀ i, (L.getD i []).length ≤ 1000000) : TxS w w' v L := by
  refine ⟨⟨vs, h.own, fun i u hu => (h.each i u hu).1⟩, h.fresh, h.below, fun b hb => ⟨bL b hb, ?_⟩⟩
  obtain ⟨i, hi, rfl⟩ := List.getElem_of_mem hb
  have := hx i
  have e : L.getD i [] = L[i] := by simp [List.getD, hi]
  rw [e] at this
  omega
/-- What stands while LaneMore walks. -/
structure MoS (w wr : World) (b6 : Nat) (R : List Int) (vx : Value) (X : List (List Int)) : Prop where
  hR : HashAt wr b6 R
  tx : TxS w wr vx X
theorem MoS.on {w wr w1 : World} {b6 : Nat} {R : List Int} {vx : Value} {X : List (List Int)} (h : MoS w wr b6 R vx X) (hb : Below wr.heap.size wr w1) : MoS w w1 b6 R vx X := ⟨h.hR.on hb, h.tx.on hb⟩
theorem getD_more {L : List (List Int)} {xs : List Int} {n : Nat} (hx : ∀ i, (L.getD i []).length ≤ n) (hl : xs.length ≤ n) (i : Nat) : ((L ++ [xs]).getD i []).length ≤ n := by
  rw [getD_push]
  split
  · exact hx i
  · split
    · exact hl
    · simp
end Go.Proofs.YtebeacejlkiglaaDoor
namespace Go.Proofs.YtebeacejlkiglaaDoor
open Go.RowKit
set_option maxRecDepth 100000

def LongQ (w : World) (L : List (List Int)) (e : Ending) (w' : World) : Prop := ∃ b, e = .returned (.bool b) ∧ (b = false → (blobs L).length ≤ 8 * L.length + 4000 ∧ L.length ≤ 200) ∧ Below w.heap.size w w'
theorem blobs_many8 : ∀ L : List (List Int), 8 * L.length ≤ (blobs L).length
  | [] => by simp
  | b :: L => by have := blobs_many8 L; simp [blobs] at this ⊢; omega
theorem blobs_one8 : ∀ (L : List (List Int)) (i : Nat), i < L.length → 8 * L.length + (L.getD i []).length ≤ (blobs L).length
  | [], _, hi => by simp at hi
  | b :: L, 0, _ => by
    have := blobs_many8 L
    simp [blobs] at this ⊢; omega
  | b :: L, i + 1, hi => by
    have := blobs_one8 L i (by simpa using hi)
    simp [blobs] at this ⊢; omega
set_option maxHeartbeats 2000000 in
theorem Long2_any {w : World} {vL : Value} {L : List (List Int)} (hL : RdL w vL L []) (hln : L.length ≤ maxLen) :
    Calls Tryd.prog 7 #[vL] w (LongQ w L) := by
  obtain ⟨q, c, rfl⟩ : ∃ q c, vL = .slice q L.length c := by obtain ⟨q, c, e, _⟩ := hL; exact ⟨q, c, e⟩
  have HL := Lib.hid hL
  unfold maxLen at hln
  clear hL
  go_enter Tryd.func7, Tryd.ntmps7
  go_wp2_with fail
  go_loop [3, 4] (fun tv iv => ∃ (i t : Nat), iv = .int .i64 i ∧ tv = .int .i64 t ∧ i ≤ L.length ∧ Hid (Tot4 L i t)) (fun _ iv => L.length - (intOf iv).toNat)
  case atStart => exact ⟨0, 0, rfl, rfl, by omega, Tot4.zero L⟩
  case round =>
    obtain ⟨i, t, rfl, rfl, hi, hTo⟩ := hrel
    have ht5 := hTo.out.1
    by_cases ht2 : t ≤ 4000
    · have d0 : decide ((t : Int) ≤ 4000) = true := by rw [decide_eq_true_iff]; omega
      have d1 : decide (4000 < (t : Int)) = false := by rw [decide_eq_false_iff_not]; omega
      by_cases hlt : i < L.length
      · obtain ⟨b, off, r, m, kk, -, rfl, -, hc1, rfl, -, -⟩ := HL.out.at hlt
        have HN := Lib.hid (hTo.out.succ hlt ht2)
        have i0 : (0 : Int) ≤ (i : Int) := by omega
        have i1 : (i : Int) < (L.length : Int) := by omega
        obtain ⟨lb, hlb⟩ : ∃ lb, (L.getD i []).length = lb := ⟨_, rfl⟩
        rw [hlb] at hc1 HN
        clear hlb hTo
        go_wp2_with fail
        go_round
        case rel => exact ⟨i + 1, _, by go_num, by go_num, by omega, HN⟩
        case measure => simp [intOf]; omega
      · obtain rfl : i = L.length := by omega
        have hbl := hTo.out.2 ht2
        rw [List.take_length] at hbl
        have HBL := Lib.hid hbl
        clear hbl hTo hlt
        by_cases hm : L.length ≤ 200
        · have HP : Hid (LongQ w L (.returned (.bool false)) w) := ⟨_, rfl, fun _ => ⟨by have := HBL.out; omega, hm⟩, (Below.refl _ _)⟩
          have d3 : decide (200 < (L.length : Int)) = false := by rw [decide_eq_false_iff_not]; omega
          go_wp2_with fail
          go_ret
          exact HP.out
        · have HP : Hid (LongQ w L (.returned (.bool true)) w) := ⟨_, rfl, fun h => (by cases h), (Below.refl _ _)⟩
          have d3 : decide (200 < (L.length : Int)) = true := by rw [decide_eq_true_iff]; omega
          go_wp2_with fail
          go_ret
          exact HP.out
    · have HP : Hid (LongQ w L (.returned (.bool true)) w) := ⟨_, rfl, fun h => (by cases h), (Below.refl _ _)⟩
      have d0 : decide ((t : Int) ≤ 4000) = false := by rw [decide_eq_false_iff_not]; omega
      have d1 : decide (4000 < (t : Int)) = true := by rw [decide_eq_true_iff]; omega
      clear hTo
      by_cases hlt : i < L.length
      · go_wp2_with fail
        go_ret
        exact HP.out
      · go_wp2_with fail
        go_ret
        exact HP.out


end Go.Proofs.YtebeacejlkiglaaDoor
