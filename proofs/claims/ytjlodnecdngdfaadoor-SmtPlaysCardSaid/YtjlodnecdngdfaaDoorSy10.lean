/-
  Package smt: a whole map in memory.; Package smt: with, without, forget, of a map's tree, be there one or none.; Package smt: Put, on any map.
-/
import Derived.Test.YtjlodnecdngdfaaDoorSy7
import Derived.Test.YtjlodnecdngdfaaDoorSy9
namespace Go.Proofs.YtjlodnecdngdfaaDoor
open Go.RowKit
set_option maxRecDepth 100000

/-- The tree of a map: none for no pairs. -/
def TopS (w : World) (E : List En) (top : Option Addr) (bl : List Nat) : Prop :=
  (E = [] ∧ top = none ∧ bl = []) ∨ ∃ b t, top = some ⟨b, 0, none⟩ ∧ Tr.ok t ∧ (∀ k, k ∈ t.keys ↔ ∃ x ∈ E, x.k = k) ∧ TrA w (vOf E) t b bl ∧ bl.Nodup
theorem TopS.chg {w w' : World} {E : List En} {top : Option Addr} {bl S : List Nat} (h : TopS w E top bl) (hc : Chg w w' S) (hs : ∀ g ∈ bl, g ∉ S) : TopS w' E top bl := by
  rcases h with h | ⟨b, t, h1, h2, h3, h4, h5⟩
  · exact .inl h
  · exact .inr ⟨b, t, h1, h2, h3, h4.chg hc hs, h5⟩
theorem TopS.on {w w' : World} {E : List En} {top : Option Addr} {bl : List Nat} (h : TopS w E top bl) (hb : Below w.heap.size w w') : TopS w' E top bl := h.chg (S := []) (Chg.below hb (Nat.le_refl _) []) (by simp)
theorem TopS.lt {w : World} {E : List En} {top : Option Addr} {bl : List Nat} (h : TopS w E top bl) : ∀ g ∈ bl, g < w.heap.size := by
  rcases h with ⟨-, -, rfl⟩ | ⟨b, t, h1, h2, h3, h4, h5⟩
  · intro g hg; cases hg
  · exact h4.lt
theorem Chg.wider {w w' : World} {S T : List Nat} (h : Chg w w' S) (hs : ∀ g ∈ S, g ∈ T) : Chg w w' T := (Chg.refl w T).trans h (fun g hg _ => hs g hg)
theorem putMap_chg (w : World) (m : Nat) (es : Array MapEntry) (c : Nat) : Chg w (putMap w m es c) [m] := (Chg.refl w [m]).putMap (b := m) (.inl (by simp)) es c
structure MapS (w : World) (p m : Nat) (E : List En) (c : Nat) (top : Option Addr) (bl : List Nat) : Prop where
  s : MpS w p m (mes E) c top
  t : TopS w E top bl
  e : EnW E
  n : EnC E c
  p : p ∉ bl
  m : m ∉ bl
section
variable {w w' : World} {p m c : Nat} {E : List En} {top : Option Addr} {bl : List Nat}
theorem MapS.chg {S : List Nat} (h : MapS w p m E c top bl) (hc : Chg w w' S) (hp : p ∉ S) (hm : m ∉ S) (hs : ∀ g ∈ bl, g ∉ S) : MapS w' p m E c top bl := ⟨h.s.chg hc hp hm, h.t.chg hc hs, h.e, h.n, h.p, h.m⟩
theorem MapS.on (h : MapS w p m E c top bl) (hb : Below w.heap.size w w') : MapS w' p m E c top bl := h.chg (S := []) (Chg.below hb (Nat.le_refl _) []) (by simp) (by simp) (by simp)
end
/-- What a Put answers, and what it leaves. -/
def PutQ (w : World) (p m : Nat) (E : List En) (bl : List Nat) (K V : List Int) (e : Ending) (w' : World) : Prop :=
  e = .returned (.int .i64 0) ∧ Chg w w' (p :: m :: bl) ∧ ∃ E' c' top' bl', MapS w' p m E' c' top' bl' ∧ (∀ g ∈ bl', g ∈ bl ∨ w.heap.size ≤ g) ∧ (∀ k, vOf E' k = if k = K then V else vOf E k) ∧ E'.length ≤ E.length + 1 ∧ E.length ≤ E'.length + 1
end Go.Proofs.YtjlodnecdngdfaaDoor
namespace Go.Proofs.YtjlodnecdngdfaaDoor
open Go.RowKit
set_option maxRecDepth 100000

section
variable {w : World} {E E' : List En} {top : Option Addr} {bl : List Nat} {K V : List Int}
theorem with_top (hK : KyOk K) (h : TopS w E top bl) (hv : ∀ k, vOf E' k = if k = K then V else vOf E k) (hk : ∀ k, (∃ x ∈ E', x.k = k) ↔ k = K ∨ ∃ x ∈ E, x.k = k) (hno : ∀ x ∈ E, x.k ≠ K) :
    Calls Tryd.prog 35 #[.pointer top, .agg (hc K).toArray] w fun e w' => ∃ top' bl', e = .returned (.pointer top') ∧ Chg w w' bl ∧ TopS w' E' top' bl' ∧ ∀ g ∈ bl', g ∈ bl ∨ w.heap.size ≤ g := by
  rcases h with ⟨h1, rfl, rfl⟩ | ⟨b, t, rfl, ok, h3, h4, h5⟩
  · refine (with_nilA hK (vOf E') w).mono ?_
    rintro e w' ⟨b', rfl, hb, ht, hl⟩
    refine ⟨_, [b'], rfl, Chg.below hb (Nat.le_refl _) [], .inr ⟨b', .lf K, rfl, hK, fun k => ?_, ht, by simp⟩, fun g hg => .inr (by obtain rfl := List.mem_singleton.1 hg; exact hl)⟩
    rw [hk k, h1]
    simp [Tr.keys]
  · have hnk : K ∉ t.keys := fun hm => by
      obtain ⟨x, hx, e⟩ := (h3 K).1 hm
      exact hno x hx e
    refine (with_all hK ok hnk w (vOf E) (vOf E') b bl h4 h5 (fun k hkt => ?_)).mono ?_
    · rw [hv k, if_neg (fun e => hnk (by rw [← e]; exact hkt))]
    · rintro e w' ⟨b', bl', rfl, hc, ht, nd, hin⟩
      refine ⟨_, bl', rfl, hc, .inr ⟨b', t.ins K, rfl, Tr.ins_ok K ok hK hnk, fun k => ?_, ht, nd⟩, hin⟩
      rw [(Tr.ins_keys K ok hK hnk).mem_iff, hk k, List.mem_cons, h3 k]
theorem without_top (hK : KyOk K) (h : TopS w E top bl) (hv : ∀ k, k ≠ K → vOf E' k = vOf E k) (hk : ∀ k, (∃ x ∈ E', x.k = k) ↔ k ≠ K ∧ ∃ x ∈ E, x.k = k) (hin : ∃ x ∈ E, x.k = K) :
    Calls Tryd.prog 33 #[.pointer top, .agg (hc K).toArray] w fun e w' => ∃ top' bl', e = .returned (.pointer top') ∧ Chg w w' bl ∧ TopS w' E' top' bl' ∧ ∀ g ∈ bl', g ∈ bl := by
  rcases h with ⟨h1, rfl, rfl⟩ | ⟨b, t, rfl, ok, h3, h4, h5⟩
  · obtain ⟨x, hx, _⟩ := hin
    rw [h1] at hx; cases hx
  · have hkt : K ∈ t.keys := (h3 K).2 hin
    have hp := Tr.del_keys K ok hkt
    have hnd := Tr.ok.nodup ok
    have hn1 := hp.nodup_iff.1 hnd
    refine (without_all hK ok hkt w (vOf E) (vOf E') b bl h4 h5 (fun k _ hne => (hv k hne).symm)).mono ?_
    rintro e w' ⟨v, rfl, hc, ht⟩
    have hkeys : ∀ k, k ∈ keysO (t.del K) ↔ ∃ x ∈ E', x.k = k := fun k => by
      rw [hk k, ← h3 k, hp.mem_iff, List.mem_cons]
      constructor
      · intro hm
        exact ⟨fun e => by subst e; exact (List.nodup_cons.1 hn1).1 hm, .inr hm⟩
      · rintro ⟨h1, h2 | h2⟩
        · exact absurd h2 h1
        · exact h2
    cases hd : t.del K with
    | none =>
      rw [hd] at ht hkeys
      obtain rfl : v = .pointer none := ht
      refine ⟨none, [], rfl, hc, .inl ⟨?_, rfl, rfl⟩, fun g hg => by cases hg⟩
      cases E' with
      | nil => rfl
      | cons x E'' =>
        have := (hkeys x.k).2 ⟨x, by simp, rfl⟩
        cases this
    | some t' =>
      rw [hd] at ht hkeys
      obtain ⟨b', bl', rfl, ht, nd, hin'⟩ := ht
      exact ⟨_, bl', rfl, hc, .inr ⟨b', t', rfl, (Tr.del_ok K ok hkt hd).1, hkeys, ht, nd⟩, hin'⟩
theorem forget_top (hK : KyOk K) (h : TopS w E top bl) (hv : ∀ k, k ≠ K → vOf E' k = vOf E k) (hk : ∀ k, (∃ x ∈ E', x.k = k) ↔ ∃ x ∈ E, x.k = k) (hin : ∃ x ∈ E, x.k = K) :
    Calls Tryd.prog 34 #[.pointer top, .agg (hc K).toArray] w fun e w' => e = .returned (.tuple #[]) ∧ Chg w w' bl ∧ TopS w' E' top bl := by
  rcases h with ⟨h1, rfl, rfl⟩ | ⟨b, t, rfl, ok, h3, h4, h5⟩
  · obtain ⟨x, hx, _⟩ := hin
    rw [h1] at hx; cases hx
  · refine (forget_any hK ok ((h3 K).2 hin) h4 h5 (V' := vOf E') (fun k _ hne => (hv k hne).symm)).mono ?_
    rintro e w' ⟨rfl, hc, ht⟩
    exact ⟨rfl, hc, .inr ⟨b, t, rfl, ok, fun k => by rw [h3 k, hk k], ht, h5⟩⟩
end
end Go.Proofs.YtjlodnecdngdfaaDoor
namespace Go.Proofs.YtjlodnecdngdfaaDoor
open Go.RowKit
set_option maxRecDepth 100000

set_option maxHeartbeats 16000000 in
theorem Put_all {w : World} {p m c : Nat} {E : List En} {top : Option Addr} {bl : List Nat} {Ky V : List Int} (hKy : KyOk Ky) (hV : V.length = 32) (bV : Bytes V) (hM : MapS w p m E c top bl) (hle : E.length < 4096) :
    Calls Tryd.prog 13 #[.pointer (some ⟨p, 0, none⟩), .agg (hc Ky).toArray, .agg (hc V).toArray] w (PutQ w p m E bl Ky V) := by
  unfold PutQ
  have HKY := Lib.hid hKy
  have LV := Lib.hid hV
  have BV := Lib.hid bV
  have HLE := Lib.hid hle
  have HK := Lib.hid (((HashAt.new w Ky).alloc (.cells (hc V).toArray 24)))
  have HV := Lib.hid (HashAt.new (w.alloc (.cells (hc Ky).toArray 24)) V)
  have B0 := Lib.hid (((Below.refl w.heap.size w).alloc (Nat.le_refl _) (.cells (hc Ky).toArray 24)).alloc (by simp) (.cells (hc V).toArray 24))
  have M0 := Lib.hid ((hM.on ((Below.refl w.heap.size w).alloc (Nat.le_refl _) (.cells (hc Ky).toArray 24))).on ((Below.refl _ _).alloc (Nat.le_refl _) (.cells (hc V).toArray 24)))
  have HMP := Lib.hid hM.s.lp
  have HMM := Lib.hid hM.s.lm
  have HPM := Lib.hid hM.s.ne
  have LTB := Lib.hid hM.t.lt
  have c00 := M0.out.s.c0
  have hlk := hc_len Ky
  have hlv := hc_len V
  have lk32 := hKy.len
  have lv32 := hV
  have z32 := zero32_len
  have hW0 : Hid (((w.alloc (.cells (hc Ky).toArray 24)).alloc (.cells (hc V).toArray 24)).heap.size = w.heap.size + 2) := by show _ = _; simp
  simp only [World.size_alloc] at HV
  have lookE := fun (ok : Bool) {W : World} {cc : Nat} (hb : W.heap[m]? = some (.map (mes E) cc)) => look_any (c := cc) (w := W) ok hb hM.e.b.ok hKy.len
  have EW := Lib.hid hM.e
  have LO : Hid ((vOf E Ky).length = 32) := (vOf_ok hM.e.b Ky).1
  obtain ⟨O, hO⟩ : ∃ O, vOf E Ky = O := ⟨_, rfl⟩
  have HO := Lib.hid hO
  obtain ⟨Y, hY⟩ : ∃ Y, fndE Ky E 0 = Y := ⟨_, rfl⟩
  have HY := Lib.hid hY
  rw [hO, hY] at lookE
  rw [hO] at LO
  clear hM hKy hV bV hle hO hY
  go_enter Tryd.func13, Tryd.ntmps13
  go_wp2_with fail
  refine (made_yes c00).mono ?_
  rintro e wn ⟨rfl, h⟩
  obtain rfl := h.symm
  clear h
  go_wp2_with fail
  generalize ((w.alloc (.cells (hc Ky).toArray 24)).alloc (.cells (hc V).toArray 24)) = w0 at *
  refine wp_region_held_drew (S := fun W => Below w0.drew.heap.size w0.drew W) (by kernel_rfl) (Below.refl _ _) (fun h0 => ?_)
  replace M0 := Lib.hid (M0.out.on ((Below.refl _ _).drew))
  replace HK := Lib.hid (HK.out.on ((Below.refl _ _).drew))
  replace HV := Lib.hid (HV.out.on ((Below.refl _ _).drew))
  replace B0 := Lib.hid B0.out.drew
  replace hW0 : Hid (w0.drew.heap.size = w.heap.size + 2) := hW0
  clear c00
  generalize w0.drew = w0 at *
  refine wpAnyH_take (i := 0) (v := ?_) (by rw [List.getElem?_toArray]; rfl) (by kernel_rfl) (by kernel_rfl) (by kernel_rfl) (by exact fun _ _ _ h => h) (Or.inl ⟨by rfl, ?_⟩) h0 ?_
  rotate_left
  · intro W hW
    go_simp
    all_goals with_reducible rfl
  try simp only [Act.put, List.setIfInBounds_toArray, List.set_cons_zero, List.set_cons_succ]
  refine wpAnyH_take (i := 1) (v := ?_) (by rw [List.getElem?_toArray]; rfl) (by kernel_rfl) (by kernel_rfl) (by kernel_rfl) (by exact fun _ _ _ h => h) (Or.inl ⟨by rfl, ?_⟩) h0 ?_
  rotate_left
  · intro W hW
    go_simp
    all_goals with_reducible rfl
  try simp only [Act.put, List.setIfInBounds_toArray, List.set_cons_zero, List.set_cons_succ]
  refine wpAnyH_take (i := 2) (v := ?_) (by rw [List.getElem?_toArray]; rfl) (by kernel_rfl) (by kernel_rfl) (by kernel_rfl) (by exact fun _ _ _ h => h) (Or.inl ⟨by rfl, ?_⟩) h0 ?_
  rotate_left
  · intro W hW
    go_simp
    all_goals with_reducible rfl
  try simp only [Act.put, List.setIfInBounds_toArray, List.set_cons_zero, List.set_cons_succ]
  refine wpAnyH_take (i := 3) (v := ?_) (by rw [List.getElem?_toArray]; rfl) (by kernel_rfl) (by kernel_rfl) (by kernel_rfl) (by exact fun _ _ _ h => h) (Or.inl ⟨by rfl, ?_⟩) h0 ?_
  rotate_left
  · intro W hW
    have cc := (M0.out.on hW).s.c0
    go_simp
    all_goals with_reducible rfl
  try simp only [Act.put, List.setIfInBounds_toArray, List.set_cons_zero, List.set_cons_succ]
  refine wpAnyH_take (i := 4) (v := ?_) (by rw [List.getElem?_toArray]; rfl) (by kernel_rfl) (by kernel_rfl) (by kernel_rfl) (by exact fun _ _ _ h => h) (Or.inl ⟨by rfl, ?_⟩) h0 ?_
  rotate_left
  · intro W hW
    have cc := (HK.out.on hW).row HKY.out.len
    go_simp
    all_goals with_reducible rfl
  try simp only [Act.put, List.setIfInBounds_toArray, List.set_cons_zero, List.set_cons_succ]
  refine wpAnyH_take (i := 5) (v := ?_) (by rw [List.getElem?_toArray]; rfl) (by kernel_rfl) (by kernel_rfl) (by kernel_rfl) (by exact fun _ _ _ h => h) (Or.inl ⟨by rfl, ?_⟩) h0 ?_
  rotate_left
  · intro W hW
    have cc := lookE true (M0.out.on hW).s.mp
    go_simp
    all_goals with_reducible rfl
  try simp only [Act.put, List.setIfInBounds_toArray, List.set_cons_zero, List.set_cons_succ]
  refine wpAnyH_take (i := 6) (v := ?_) (by rw [List.getElem?_toArray]; rfl) (by kernel_rfl) (by kernel_rfl) (by kernel_rfl) (by exact fun _ _ _ h => h) (Or.inl ⟨by rfl, ?_⟩) h0 ?_
  rotate_left
  · intro W hW
    go_simp
    all_goals with_reducible rfl
  try simp only [Act.put, List.setIfInBounds_toArray, List.set_cons_zero, List.set_cons_succ]
  refine wpAnyH_take (i := 7) (v := ?_) (by rw [List.getElem?_toArray]; rfl) (by kernel_rfl) (by kernel_rfl) (by kernel_rfl) (by exact fun _ _ _ h => h) (Or.inl ⟨by rfl, ?_⟩) h0 ?_
  rotate_left
  · intro W hW
    go_simp
    all_goals with_reducible rfl
  try simp only [Act.put, List.setIfInBounds_toArray, List.set_cons_zero, List.set_cons_succ]
  refine wpAnyH_take (i := 8) (v := ?_) (by rw [List.getElem?_toArray]; rfl) (by kernel_rfl) (by kernel_rfl) (by kernel_rfl) (by exact fun _ _ _ h => h) (Or.inl ⟨by rfl, ?_⟩) h0 ?_
  rotate_left
  · intro W hW
    go_simp
    all_goals with_reducible rfl
  try simp only [Act.put, List.setIfInBounds_toArray, List.set_cons_zero, List.set_cons_succ]
  refine wpAnyH_ready (rs := [9]) (by kernel_rfl) (by simp) ?_
  refine AllReadyH.cons (by rw [List.getElem?_toArray]; rfl) (fun K hK => ?_) AllReadyH.nil
  rw [if_pos (by rfl)]
  have Z1 := Lib.hid (HashAt.new w0 zero32)
  go_wp2_with fail
  refine hK.out _ _ (h0.alloc h0.size _) (fun h1 => ?_)
  clear hK K
  try simp only [Act.put, List.setIfInBounds_toArray, List.set_cons_zero, List.set_cons_succ]
  refine wpAnyH_ready (rs := [10]) (by kernel_rfl) (by simp) ?_
  refine AllReadyH.cons (by rw [List.getElem?_toArray]; rfl) (fun K hK => ?_) AllReadyH.nil
  rw [if_pos (by rfl)]
  have th1 := Z1.out.there zero32_len
  have P1 := Lib.hid (Z1.out.put zero32_len LO.out)
  have B1 : Below w0.heap.size w0 ((w0.alloc (.cells (hc zero32).toArray 24)).setCells w0.heap.size 0 (hc O)) := below_setCells' _ (Nat.le_refl _) _ _ h1
  have ols := hc_len O
  have lol := LO.out
  go_wp2_with fail
  refine hK.out _ _ (B1) (fun h2 => ?_)
  clear hK K
  try simp only [Act.put, List.setIfInBounds_toArray, List.set_cons_zero, List.set_cons_succ]
  refine wpAnyH_take (i := 11) (v := ?_) (by rw [List.getElem?_toArray]; rfl) (by kernel_rfl) (by kernel_rfl) (by kernel_rfl) (by exact fun _ _ _ h => h) (Or.inl ⟨by rfl, ?_⟩) h2 ?_
  rotate_left
  · intro W hW
    go_simp
    all_goals with_reducible rfl
  try simp only [Act.put, List.setIfInBounds_toArray, List.set_cons_zero, List.set_cons_succ]
  refine wpAnyH_done (by kernel_rfl) ?_ _
  have rv := (HV.out.on B1).row LV.out
  have ro := P1.out.row LO.out
  have Mx := Lib.hid (M0.out.on B1)
  have HKx := Lib.hid (HK.out.on B1)
  have HVx := Lib.hid (HV.out.on B1)
  have cx := Mx.out.s.c0
  have hln := run_len_at (P := Tryd.prog) 3 Tryd.underlying53 Mx.out.s.mp
  have Bx := Lib.hid (B0.out.trans (B1.mono B0.out.size))
  have lo32 := LO.out
  have HSX : Hid (w.heap.size + 2 ≤ ((w0.alloc (.cells (hc zero32).toArray 24)).setCells w0.heap.size 0 (hc O)).heap.size) := by show _ ≤ _; have := B1.size; have := hW0.out; omega
  clear h2 h1 P1 Z1 th1 M0 HK HV lookE
  generalize (w0.alloc (.cells (hc zero32).toArray 24)).setCells w0.heap.size 0 (hc O) = w2 at *
  clear B1
  have hsz : (mes E).size = E.length := by simp [mes]
  rw [hsz] at hln
  have ge4 : decide ((E.length : Int) ≥ 4096) = false := decide_eq_false (by have := HLE.out; omega)
  have ge5 : decide (4096 ≤ E.length) = false := decide_eq_false (by have := HLE.out; omega)
  clear hsz B0
  by_cases hov : O = V
  · as_aux_lemma =>
    have HOV := Lib.hid hov
    have e1 : (O == V) = true := by rw [hov]; exact beq_self_eq_true _
    clear hov
    go_wp2_with fail
    go_ret
    refine ⟨rfl, Chg.below Bx.out (Nat.le_refl _) _, E, _, _, bl, Mx.out, fun g hg => .inl hg, fun k => ?_, by omega, by omega⟩
    by_cases hk : k = Ky
    · rw [if_pos hk, hk, HO.out, HOV.out]
    · rw [if_neg hk]
  have e1 : (O == V) = false := by simpa using hov
  have HOV := Lib.hid hov
  clear hov
  by_cases hz : V = zero32
  · as_aux_lemma =>
    have HZ := Lib.hid hz
    have e2 : (V == zero32) = true := by rw [hz]; exact beq_self_eq_true _
    clear hz
    have hin : ∃ x ∈ E, x.k = Ky := EW.out.key.2 (by rw [HO.out]; intro e; exact HOV.out (by rw [e, HZ.out]))
    have HIN := Lib.hid hin
    rcases hY : Y with _ | ⟨i, v0⟩
    · obtain ⟨x, hx, e⟩ := hin
      exact absurd e (fnd_none (by rw [HY.out, hY]) x hx)
    have HF : Hid (fndE Ky E 0 = some (i, v0)) := by show _ = _; rw [HY.out, hY]
    clear hY hin
    have GONE := Lib.hid (EW.out.gone HF.out)
    go_wp2_with fail
    refine wp_region_held_drew (S := fun W => W.cell? ⟨p, 0, none⟩ = some (.map (some m)) ∧ HashAt W w.heap.size Ky) (by kernel_rfl) (⟨(Mx.out.s.on ((Below.refl _ _).drew)).c0, HKx.out.on ((Below.refl _ _).drew)⟩) (fun h0 => ?_)
    replace Mx := Lib.hid (Mx.out.on ((Below.refl _ _).drew))
    replace HKx := Lib.hid (HKx.out.on ((Below.refl _ _).drew))
    replace HVx := Lib.hid (HVx.out.on ((Below.refl _ _).drew))
    replace Bx := Lib.hid Bx.out.drew
    replace HSX : Hid (w.heap.size + 2 ≤ w2.drew.heap.size) := HSX
    clear cx hln rv ro
    generalize w2.drew = w2 at *
    refine wpAnyH_take (i := 0) (v := ?_) (by rw [List.getElem?_toArray]; rfl) (by kernel_rfl) (by kernel_rfl) (by kernel_rfl) (by exact fun _ _ _ h => h) (Or.inl ⟨by rfl, ?_⟩) h0 ?_
    rotate_left
    · intro W hW
      go_simp
      all_goals with_reducible rfl
    try simp only [Act.put, List.setIfInBounds_toArray, List.set_cons_zero, List.set_cons_succ]
    refine wpAnyH_take (i := 1) (v := ?_) (by rw [List.getElem?_toArray]; rfl) (by kernel_rfl) (by kernel_rfl) (by kernel_rfl) (by exact fun _ _ _ h => h) (Or.inl ⟨by rfl, ?_⟩) h0 ?_
    rotate_left
    · intro W hW
      go_simp
      all_goals with_reducible rfl
    try simp only [Act.put, List.setIfInBounds_toArray, List.set_cons_zero, List.set_cons_succ]
    refine wpAnyH_take (i := 2) (v := ?_) (by rw [List.getElem?_toArray]; rfl) (by kernel_rfl) (by kernel_rfl) (by kernel_rfl) (by exact fun _ _ _ h => h) (Or.inl ⟨by rfl, ?_⟩) h0 ?_
    rotate_left
    · intro W hW
      go_simp
      all_goals with_reducible rfl
    try simp only [Act.put, List.setIfInBounds_toArray, List.set_cons_zero, List.set_cons_succ]
    refine wpAnyH_take (i := 3) (v := ?_) (by rw [List.getElem?_toArray]; rfl) (by kernel_rfl) (by kernel_rfl) (by kernel_rfl) (by exact fun _ _ _ h => h) (Or.inl ⟨by rfl, ?_⟩) h0 ?_
    rotate_left
    · intro W hW
      have cc := hW.1
      go_simp
      all_goals with_reducible rfl
    try simp only [Act.put, List.setIfInBounds_toArray, List.set_cons_zero, List.set_cons_succ]
    refine wpAnyH_take (i := 4) (v := ?_) (by rw [List.getElem?_toArray]; rfl) (by kernel_rfl) (by kernel_rfl) (by kernel_rfl) (by exact fun _ _ _ h => h) (Or.inl ⟨by rfl, ?_⟩) h0 ?_
    rotate_left
    · intro W hW
      have cc := hW.2.row HKY.out.len
      go_simp
      all_goals with_reducible rfl
    try simp only [Act.put, List.setIfInBounds_toArray, List.set_cons_zero, List.set_cons_succ]
    refine wpAnyH_ready (rs := [5]) (by kernel_rfl) (by simp) ?_
    refine AllReadyH.cons (by rw [List.getElem?_toArray]; rfl) (fun K hK => ?_) AllReadyH.nil
    rw [if_pos (by rfl)]
    have hup := fun ty => del_any (K := Ky) (i := i) (V := v0) ty Mx.out.s.mp EW.out.b.ok HKY.out.len HF.out
    have hs3 := putMap_size w2 m (mes (E.eraseIdx i)) c
    have M3 := Lib.hid (Mx.out.s.putMap (mes (E.eraseIdx i)) c)
    have T3 := Lib.hid (Mx.out.t.chg (putMap_chg w2 m (mes (E.eraseIdx i)) c) (fun g h1 h2 => Mx.out.m (by obtain rfl := List.mem_singleton.1 h2; exact h1)))
    have K3 : Hid (HashAt (putMap w2 m (mes (E.eraseIdx i)) c) w.heap.size Ky) := by
      show _ = _
      rw [putMap_other (by have := HMM.out; omega)]; exact HKx.out
    have C3 := Lib.hid ((Chg.below Bx.out (Nat.le_refl _) (p :: m :: bl)).putMap (b := m) (.inl (by simp)) (mes (E.eraseIdx i)) c)
    have c3 := M3.out.c0
    go_wp2_with fail
    refine hK.out _ _ (⟨c3, K3.out⟩) (fun h3 => ?_)
    clear hK K
    try simp only [Act.put, List.setIfInBounds_toArray, List.set_cons_zero, List.set_cons_succ]
    refine wpAnyH_done (by kernel_rfl) ?_ _
    have CX := Lib.hid Mx.out
    clear h3 h0 c3 Mx HKx HVx hup Bx
    have hs4 : Hid (w.heap.size + 2 ≤ (putMap w2 m (mes (E.eraseIdx i)) c).heap.size) := by show _ ≤ _; rw [hs3]; exact HSX.out
    clear hs3
    generalize putMap w2 m (mes (E.eraseIdx i)) c = w3 at *
    go_wp2_with fail
    refine wp_region_held_drew (S := fun W => HashAt W w.heap.size Ky) (by kernel_rfl) (K3.out.on ((Below.refl _ _).drew)) (fun h0 => ?_)
    replace M3 := Lib.hid (M3.out.on ((Below.refl _ _).drew))
    replace T3 := Lib.hid (T3.out.on ((Below.refl _ _).drew))
    replace K3 := Lib.hid (K3.out.on ((Below.refl _ _).drew))
    replace C3 := Lib.hid C3.out.drew
    replace hs4 : Hid (w.heap.size + 2 ≤ w3.drew.heap.size) := hs4
    generalize w3.drew = w3 at *
    refine wpAnyH_take (i := 0) (v := ?_) (by rw [List.getElem?_toArray]; rfl) (by kernel_rfl) (by kernel_rfl) (by kernel_rfl) (by exact fun _ _ _ h => h) (Or.inl ⟨by rfl, ?_⟩) h0 ?_
    rotate_left
    · intro W hW
      go_simp
      all_goals with_reducible rfl
    try simp only [Act.put, List.setIfInBounds_toArray, List.set_cons_zero, List.set_cons_succ]
    refine wpAnyH_take (i := 1) (v := ?_) (by rw [List.getElem?_toArray]; rfl) (by kernel_rfl) (by kernel_rfl) (by kernel_rfl) (by exact fun _ _ _ h => h) (Or.inl ⟨by rfl, ?_⟩) h0 ?_
    rotate_left
    · intro W hW
      go_simp
      all_goals with_reducible rfl
    try simp only [Act.put, List.setIfInBounds_toArray, List.set_cons_zero, List.set_cons_succ]
    refine wpAnyH_take (i := 2) (v := ?_) (by rw [List.getElem?_toArray]; rfl) (by kernel_rfl) (by kernel_rfl) (by kernel_rfl) (by exact fun _ _ _ h => h) (Or.inl ⟨by rfl, ?_⟩) h0 ?_
    rotate_left
    · intro W hW
      go_simp
      all_goals with_reducible rfl
    try simp only [Act.put, List.setIfInBounds_toArray, List.set_cons_zero, List.set_cons_succ]
    refine wpAnyH_take (i := 3) (v := ?_) (by rw [List.getElem?_toArray]; rfl) (by kernel_rfl) (by kernel_rfl) (by kernel_rfl) (by exact fun _ _ _ h => h) (Or.inl ⟨by rfl, ?_⟩) h0 ?_
    rotate_left
    · intro W hW
      go_simp
      all_goals with_reducible rfl
    try simp only [Act.put, List.setIfInBounds_toArray, List.set_cons_zero, List.set_cons_succ]
    refine wpAnyH_take (i := 5) (v := ?_) (by rw [List.getElem?_toArray]; rfl) (by kernel_rfl) (by kernel_rfl) (by kernel_rfl) (by exact fun _ _ _ h => h) (Or.inl ⟨by rfl, ?_⟩) h0 ?_
    rotate_left
    · intro W hW
      have cc := hW.row HKY.out.len
      go_simp
      all_goals with_reducible rfl
    try simp only [Act.put, List.setIfInBounds_toArray, List.set_cons_zero, List.set_cons_succ]
    refine wpAnyH_ready (rs := [4]) (by kernel_rfl) (by simp) ?_
    refine AllReadyH.cons (by rw [List.getElem?_toArray]; rfl) (fun K hK => ?_) AllReadyH.nil
    rw [if_pos (by rfl)]
    have ct := M3.out.c1
    go_wp2_with fail
    refine hK.out _ _ (h0) (fun h4 => ?_)
    clear hK K
    try simp only [Act.put, List.setIfInBounds_toArray, List.set_cons_zero, List.set_cons_succ]
    refine wpAnyH_ready (rs := [6]) (by kernel_rfl) (by simp) ?_
    refine AllReadyH.cons (by rw [List.getElem?_toArray]; rfl) (fun K hK => ?_) AllReadyH.nil
    rw [if_pos (by rfl)]
    go_wp2_with fail
    refine (without_top (E' := E.eraseIdx i) HKY.out T3.out (fun k hk => by rw [GONE.out.2.1 k, if_neg hk]) (fun k => by rw [GONE.out.1.key, GONE.out.2.1 k, EW.out.key]; by_cases hk : k = Ky <;> simp [hk]) HIN.out).mono ?_
    rintro e w4 ⟨top4, bl4, rfl, c4, t4, in4⟩
    have M4 := Lib.hid (M3.out.chg c4 CX.out.p CX.out.m)
    have C4 := Lib.hid (C3.out.trans (T := p :: m :: bl) (c4.wider (fun g hg => by simp [hg])) (fun g hg _ => hg))
    have K4 := Lib.hid (K3.out.chg' c4 (fun h => by have := CX.out.t.lt; have := LTB.out _ h; omega))
    have T4 := Lib.hid t4
    have IN4 := Lib.hid in4
    go_wp2_with fail
    refine hK.out _ _ (K4.out) (fun h5 => ?_)
    clear hK K
    try simp only [Act.put, List.setIfInBounds_toArray, List.set_cons_zero, List.set_cons_succ]
    refine wpAnyH_take (i := 7) (v := ?_) (by rw [List.getElem?_toArray]; rfl) (by kernel_rfl) (by kernel_rfl) (by kernel_rfl) (by exact fun _ _ _ h => h) (Or.inl ⟨by rfl, ?_⟩) h5 ?_
    rotate_left
    · intro W hW
      go_simp
      all_goals with_reducible rfl
    try simp only [Act.put, List.setIfInBounds_toArray, List.set_cons_zero, List.set_cons_succ]
    refine wpAnyH_take (i := 8) (v := ?_) (by rw [List.getElem?_toArray]; rfl) (by kernel_rfl) (by kernel_rfl) (by kernel_rfl) (by exact fun _ _ _ h => h) (Or.inl ⟨by rfl, ?_⟩) h5 ?_
    rotate_left
    · intro W hW
      go_simp
      all_goals with_reducible rfl
    try simp only [Act.put, List.setIfInBounds_toArray, List.set_cons_zero, List.set_cons_succ]
    refine wpAnyH_ready (rs := [9]) (by kernel_rfl) (by simp) ?_
    refine AllReadyH.cons (by rw [List.getElem?_toArray]; rfl) (fun K hK => ?_) AllReadyH.nil
    rw [if_pos (by rfl)]
    have ct2 := M4.out.c1
    have cf2 : w4.frozen? ⟨p, 1, none⟩ = false := Joins.unfrozen_of_block M4.out.blk 1
    have M5 := Lib.hid (M4.out.setTop top4)
    have C5 := Lib.hid (C4.out.setCell (p := ⟨p, 1, none⟩) (.inl (by simp)) (.pointer top4))
    have D5 := Lib.hid ((Chg.refl w4 [p]).setCell (p := ⟨p, 1, none⟩) (.inl (by simp)) (.pointer top4))
    have K5 := Lib.hid (K4.out.other (a := ⟨p, 1, none⟩) (by have := HMP.out; simp; omega) (.pointer top4))
    go_wp2_with fail
    refine hK.out _ _ (K5.out) (fun h6 => ?_)
    clear hK K
    try simp only [Act.put, List.setIfInBounds_toArray, List.set_cons_zero, List.set_cons_succ]
    refine wpAnyH_done (by kernel_rfl) ?_ _
    go_wp2_with fail
    go_ret
    have hg := GONE.out
    refine ⟨rfl, C5.out, E.eraseIdx i, c, top4, bl4, ⟨M5.out, T4.out.chg D5.out (fun g h1 h2 => CX.out.p (by obtain rfl := List.mem_singleton.1 h2; exact IN4.out _ h1)), hg.1, CX.out.n.gone i, fun h => CX.out.p (IN4.out _ h), fun h => CX.out.m (IN4.out _ h)⟩, fun g h => .inl (IN4.out g h), fun k => ?_, by omega, by omega⟩
    rw [hg.2.1 k, HZ.out]
  have e2 : (V == zero32) = false := by simpa using hz
  have HZ := Lib.hid hz
  clear hz
  rcases hY : Y with _ | ⟨i, v0⟩
  · as_aux_lemma =>
    have HF : Hid (fndE Ky E 0 = none) := by show _ = _; rw [HY.out, hY]
    clear hY
    have MORE := Lib.hid (EW.out.more c HKY.out LV.out BV.out HZ.out HF.out)
    have HNO := Lib.hid (fnd_none HF.out)
    go_wp2_with fail
    refine wp_region_held_drew (S := fun W => W.cell? ⟨p, 0, none⟩ = some (.map (some m)) ∧ HashAt W w.heap.size Ky ∧ HashAt W (w.heap.size + 1) V) (by kernel_rfl) (⟨(Mx.out.s.on ((Below.refl _ _).drew)).c0, HKx.out.on ((Below.refl _ _).drew), HVx.out.on ((Below.refl _ _).drew)⟩) (fun h0 => ?_)
    replace Mx := Lib.hid (Mx.out.on ((Below.refl _ _).drew))
    replace HKx := Lib.hid (HKx.out.on ((Below.refl _ _).drew))
    replace HVx := Lib.hid (HVx.out.on ((Below.refl _ _).drew))
    replace Bx := Lib.hid Bx.out.drew
    replace HSX : Hid (w.heap.size + 2 ≤ w2.drew.heap.size) := HSX
    clear cx hln rv ro
    generalize w2.drew = w2 at *
    refine wpAnyH_take (i := 0) (v := ?_) (by rw [List.getElem?_toArray]; rfl) (by kernel_rfl) (by kernel_rfl) (by kernel_rfl) (by exact fun _ _ _ h => h) (Or.inl ⟨by rfl, ?_⟩) h0 ?_
    rotate_left
    · intro W hW
      go_simp
      all_goals with_reducible rfl
    try simp only [Act.put, List.setIfInBounds_toArray, List.set_cons_zero, List.set_cons_succ]
    refine wpAnyH_take (i := 1) (v := ?_) (by rw [List.getElem?_toArray]; rfl) (by kernel_rfl) (by kernel_rfl) (by kernel_rfl) (by exact fun _ _ _ h => h) (Or.inl ⟨by rfl, ?_⟩) h0 ?_
    rotate_left
    · intro W hW
      go_simp
      all_goals with_reducible rfl
    try simp only [Act.put, List.setIfInBounds_toArray, List.set_cons_zero, List.set_cons_succ]
    refine wpAnyH_take (i := 2) (v := ?_) (by rw [List.getElem?_toArray]; rfl) (by kernel_rfl) (by kernel_rfl) (by kernel_rfl) (by exact fun _ _ _ h => h) (Or.inl ⟨by rfl, ?_⟩) h0 ?_
    rotate_left
    · intro W hW
      go_simp
      all_goals with_reducible rfl
    try simp only [Act.put, List.setIfInBounds_toArray, List.set_cons_zero, List.set_cons_succ]
    refine wpAnyH_take (i := 3) (v := ?_) (by rw [List.getElem?_toArray]; rfl) (by kernel_rfl) (by kernel_rfl) (by kernel_rfl) (by exact fun _ _ _ h => h) (Or.inl ⟨by rfl, ?_⟩) h0 ?_
    rotate_left
    · intro W hW
      have cc := hW.1
      go_simp
      all_goals with_reducible rfl
    try simp only [Act.put, List.setIfInBounds_toArray, List.set_cons_zero, List.set_cons_succ]
    refine wpAnyH_take (i := 4) (v := ?_) (by rw [List.getElem?_toArray]; rfl) (by kernel_rfl) (by kernel_rfl) (by kernel_rfl) (by exact fun _ _ _ h => h) (Or.inl ⟨by rfl, ?_⟩) h0 ?_
    rotate_left
    · intro W hW
      have cc := hW.2.1.row HKY.out.len
      go_simp
      all_goals with_reducible rfl
    try simp only [Act.put, List.setIfInBounds_toArray, List.set_cons_zero, List.set_cons_succ]
    refine wpAnyH_take (i := 5) (v := ?_) (by rw [List.getElem?_toArray]; rfl) (by kernel_rfl) (by kernel_rfl) (by kernel_rfl) (by exact fun _ _ _ h => h) (Or.inl ⟨by rfl, ?_⟩) h0 ?_
    rotate_left
    · intro W hW
      have cc := hW.2.2.row LV.out
      go_simp
      all_goals with_reducible rfl
    try simp only [Act.put, List.setIfInBounds_toArray, List.set_cons_zero, List.set_cons_succ]
    refine wpAnyH_ready (rs := [6]) (by kernel_rfl) (by simp) ?_
    refine AllReadyH.cons (by rw [List.getElem?_toArray]; rfl) (fun K hK => ?_) AllReadyH.nil
    rw [if_pos (by rfl)]
    have hup := upd_new (V := V) Mx.out.s.mp EW.out.b.ok HKY.out.len HF.out
    have hs3 := putMap_size w2 m (mes (E ++ [⟨Ky, V, c⟩])) (c + 1)
    have M3 := Lib.hid (Mx.out.s.putMap (mes (E ++ [⟨Ky, V, c⟩])) (c + 1))
    have T3 := Lib.hid (Mx.out.t.chg (putMap_chg w2 m (mes (E ++ [⟨Ky, V, c⟩])) (c + 1)) (fun g h1 h2 => Mx.out.m (by obtain rfl := List.mem_singleton.1 h2; exact h1)))
    have K3 : Hid (HashAt (putMap w2 m (mes (E ++ [⟨Ky, V, c⟩])) (c + 1)) w.heap.size Ky) := by
      show _ = _
      rw [putMap_other (by have := HMM.out; omega)]; exact HKx.out
    have V3 : Hid (HashAt (putMap w2 m (mes (E ++ [⟨Ky, V, c⟩])) (c + 1)) (w.heap.size + 1) V) := by
      show _ = _
      rw [putMap_other (by have := HMM.out; omega)]; exact HVx.out
    have C3 := Lib.hid ((Chg.below Bx.out (Nat.le_refl _) (p :: m :: bl)).putMap (b := m) (.inl (by simp)) (mes (E ++ [⟨Ky, V, c⟩])) (c + 1))
    have c3 := M3.out.c0
    go_wp2_with fail
    refine hK.out _ _ (⟨c3, K3.out, V3.out⟩) (fun h3 => ?_)
    clear hK K
    try simp only [Act.put, List.setIfInBounds_toArray, List.set_cons_zero, List.set_cons_succ]
    refine wpAnyH_done (by kernel_rfl) ?_ _
    have CX := Lib.hid Mx.out
    clear h3 h0 c3 V3 Mx HKx HVx hup Bx
    have hs4 : Hid (w.heap.size + 2 ≤ (putMap w2 m (mes (E ++ [⟨Ky, V, c⟩])) (c + 1)).heap.size) := by show _ ≤ _; rw [hs3]; exact HSX.out
    clear hs3
    generalize putMap w2 m (mes (E ++ [⟨Ky, V, c⟩])) (c + 1) = w3 at *
    go_wp2_with fail
    refine wp_region_held_drew (S := fun W => HashAt W w.heap.size Ky) (by kernel_rfl) (K3.out.on ((Below.refl _ _).drew)) (fun h0 => ?_)
    replace M3 := Lib.hid (M3.out.on ((Below.refl _ _).drew))
    replace T3 := Lib.hid (T3.out.on ((Below.refl _ _).drew))
    replace K3 := Lib.hid (K3.out.on ((Below.refl _ _).drew))
    replace C3 := Lib.hid C3.out.drew
    replace hs4 : Hid (w.heap.size + 2 ≤ w3.drew.heap.size) := hs4
    generalize w3.drew = w3 at *
    refine wpAnyH_take (i := 0) (v := ?_) (by rw [List.getElem?_toArray]; rfl) (by kernel_rfl) (by kernel_rfl) (by kernel_rfl) (by exact fun _ _ _ h => h) (Or.inl ⟨by rfl, ?_⟩) h0 ?_
    rotate_left
    · intro W hW
      go_simp
      all_goals with_reducible rfl
    try simp only [Act.put, List.setIfInBounds_toArray, List.set_cons_zero, List.set_cons_succ]
    refine wpAnyH_take (i := 1) (v := ?_) (by rw [List.getElem?_toArray]; rfl) (by kernel_rfl) (by kernel_rfl) (by kernel_rfl) (by exact fun _ _ _ h => h) (Or.inl ⟨by rfl, ?_⟩) h0 ?_
    rotate_left
    · intro W hW
      go_simp
      all_goals with_reducible rfl
    try simp only [Act.put, List.setIfInBounds_toArray, List.set_cons_zero, List.set_cons_succ]
    refine wpAnyH_take (i := 2) (v := ?_) (by rw [List.getElem?_toArray]; rfl) (by kernel_rfl) (by kernel_rfl) (by kernel_rfl) (by exact fun _ _ _ h => h) (Or.inl ⟨by rfl, ?_⟩) h0 ?_
    rotate_left
    · intro W hW
      go_simp
      all_goals with_reducible rfl
    try simp only [Act.put, List.setIfInBounds_toArray, List.set_cons_zero, List.set_cons_succ]
    refine wpAnyH_take (i := 3) (v := ?_) (by rw [List.getElem?_toArray]; rfl) (by kernel_rfl) (by kernel_rfl) (by kernel_rfl) (by exact fun _ _ _ h => h) (Or.inl ⟨by rfl, ?_⟩) h0 ?_
    rotate_left
    · intro W hW
      go_simp
      all_goals with_reducible rfl
    try simp only [Act.put, List.setIfInBounds_toArray, List.set_cons_zero, List.set_cons_succ]
    refine wpAnyH_take (i := 5) (v := ?_) (by rw [List.getElem?_toArray]; rfl) (by kernel_rfl) (by kernel_rfl) (by kernel_rfl) (by exact fun _ _ _ h => h) (Or.inl ⟨by rfl, ?_⟩) h0 ?_
    rotate_left
    · intro W hW
      have cc := hW.row HKY.out.len
      go_simp
      all_goals with_reducible rfl
    try simp only [Act.put, List.setIfInBounds_toArray, List.set_cons_zero, List.set_cons_succ]
    refine wpAnyH_ready (rs := [4]) (by kernel_rfl) (by simp) ?_
    refine AllReadyH.cons (by rw [List.getElem?_toArray]; rfl) (fun K hK => ?_) AllReadyH.nil
    rw [if_pos (by rfl)]
    have ct := M3.out.c1
    go_wp2_with fail
    refine hK.out _ _ (h0) (fun h4 => ?_)
    clear hK K
    try simp only [Act.put, List.setIfInBounds_toArray, List.set_cons_zero, List.set_cons_succ]
    refine wpAnyH_ready (rs := [6]) (by kernel_rfl) (by simp) ?_
    refine AllReadyH.cons (by rw [List.getElem?_toArray]; rfl) (fun K hK => ?_) AllReadyH.nil
    rw [if_pos (by rfl)]
    go_wp2_with fail
    refine (with_top (E' := E ++ [⟨Ky, V, c⟩]) HKY.out T3.out MORE.out.2 (fun k => by simp [or_comm, eq_comm]) HNO.out).mono ?_
    rintro e w4 ⟨top4, bl4, rfl, c4, t4, in4⟩
    have M4 := Lib.hid (M3.out.chg c4 CX.out.p CX.out.m)
    have C4 := Lib.hid (C3.out.trans (T := p :: m :: bl) (c4.wider (fun g hg => by simp [hg])) (fun g hg _ => hg))
    have K4 := Lib.hid (K3.out.chg' c4 (fun h => by have := CX.out.t.lt; have := LTB.out _ h; omega))
    have T4 := Lib.hid t4
    have IN4 := Lib.hid in4
    go_wp2_with fail
    refine hK.out _ _ (K4.out) (fun h5 => ?_)
    clear hK K
    try simp only [Act.put, List.setIfInBounds_toArray, List.set_cons_zero, List.set_cons_succ]
    refine wpAnyH_take (i := 7) (v := ?_) (by rw [List.getElem?_toArray]; rfl) (by kernel_rfl) (by kernel_rfl) (by kernel_rfl) (by exact fun _ _ _ h => h) (Or.inl ⟨by rfl, ?_⟩) h5 ?_
    rotate_left
    · intro W hW
      go_simp
      all_goals with_reducible rfl
    try simp only [Act.put, List.setIfInBounds_toArray, List.set_cons_zero, List.set_cons_succ]
    refine wpAnyH_take (i := 8) (v := ?_) (by rw [List.getElem?_toArray]; rfl) (by kernel_rfl) (by kernel_rfl) (by kernel_rfl) (by exact fun _ _ _ h => h) (Or.inl ⟨by rfl, ?_⟩) h5 ?_
    rotate_left
    · intro W hW
      go_simp
      all_goals with_reducible rfl
    try simp only [Act.put, List.setIfInBounds_toArray, List.set_cons_zero, List.set_cons_succ]
    refine wpAnyH_ready (rs := [9]) (by kernel_rfl) (by simp) ?_
    refine AllReadyH.cons (by rw [List.getElem?_toArray]; rfl) (fun K hK => ?_) AllReadyH.nil
    rw [if_pos (by rfl)]
    have ct2 := M4.out.c1
    have cf2 : w4.frozen? ⟨p, 1, none⟩ = false := Joins.unfrozen_of_block M4.out.blk 1
    have M5 := Lib.hid (M4.out.setTop top4)
    have C5 := Lib.hid (C4.out.setCell (p := ⟨p, 1, none⟩) (.inl (by simp)) (.pointer top4))
    have D5 := Lib.hid ((Chg.refl w4 [p]).setCell (p := ⟨p, 1, none⟩) (.inl (by simp)) (.pointer top4))
    have K5 := Lib.hid (K4.out.other (a := ⟨p, 1, none⟩) (by have := HMP.out; simp; omega) (.pointer top4))
    go_wp2_with fail
    refine hK.out _ _ (K5.out) (fun h6 => ?_)
    clear hK K
    try simp only [Act.put, List.setIfInBounds_toArray, List.set_cons_zero, List.set_cons_succ]
    refine wpAnyH_done (by kernel_rfl) ?_ _
    go_wp2_with fail
    go_ret
    have hg := MORE.out
    have hnp : ∀ g ∈ bl4, g < w.heap.size → g ∈ bl := fun g h hl => by
      rcases IN4.out g h with h | h
      · exact h
      · have := hs4.out; omega
    refine ⟨rfl, C5.out, E ++ [⟨Ky, V, c⟩], c + 1, top4, bl4, ⟨M5.out, T4.out.chg D5.out (fun g h1 h2 => CX.out.p (by obtain rfl := List.mem_singleton.1 h2; exact hnp _ h1 HMP.out)), hg.1, CX.out.n.more Ky V, fun h => CX.out.p (hnp _ h HMP.out), fun h => CX.out.m (hnp _ h HMM.out)⟩, fun g h => (IN4.out g h).imp id (fun h => by have := hs4.out; omega), hg.2, by simp, by simp; omega⟩
  as_aux_lemma =>
    have HF : Hid (fndE Ky E 0 = some (i, v0)) := by show _ = _; rw [HY.out, hY]
    clear hY
    have OVER := Lib.hid (EW.out.over LV.out BV.out HZ.out HF.out)
    have HIN : Hid (∃ x ∈ E, x.k = Ky) := by
      obtain ⟨A, e, B, h1, h2, -⟩ := fnd_split HF.out
      exact ⟨e, by rw [h1]; simp, h2⟩
    have HKS : Hid (∀ k, (∃ x ∈ E.modify i fun e => { e with v := V }, x.k = k) ↔ ∃ x ∈ E, x.k = k) := fun k => by
      have := OVER.out.2.2
      constructor
      · rintro ⟨x, hx, rfl⟩
        have : x.k ∈ E.map (·.k) := by rw [← this]; exact List.mem_map.2 ⟨x, hx, rfl⟩
        obtain ⟨y, hy, e⟩ := List.mem_map.1 this
        exact ⟨y, hy, e⟩
      · rintro ⟨x, hx, rfl⟩
        have : x.k ∈ (E.modify i fun e => { e with v := V }).map (·.k) := by rw [this]; exact List.mem_map.2 ⟨x, hx, rfl⟩
        obtain ⟨y, hy, e⟩ := List.mem_map.1 this
        exact ⟨y, hy, e⟩
    go_wp2_with fail
    refine wp_region_held_drew (S := fun W => W.cell? ⟨p, 0, none⟩ = some (.map (some m)) ∧ HashAt W w.heap.size Ky ∧ HashAt W (w.heap.size + 1) V) (by kernel_rfl) (⟨(Mx.out.s.on ((Below.refl _ _).drew)).c0, HKx.out.on ((Below.refl _ _).drew), HVx.out.on ((Below.refl _ _).drew)⟩) (fun h0 => ?_)
    replace Mx := Lib.hid (Mx.out.on ((Below.refl _ _).drew))
    replace HKx := Lib.hid (HKx.out.on ((Below.refl _ _).drew))
    replace HVx := Lib.hid (HVx.out.on ((Below.refl _ _).drew))
    replace Bx := Lib.hid Bx.out.drew
    replace HSX : Hid (w.heap.size + 2 ≤ w2.drew.heap.size) := HSX
    clear cx hln rv ro
    generalize w2.drew = w2 at *
    refine wpAnyH_take (i := 0) (v := ?_) (by rw [List.getElem?_toArray]; rfl) (by kernel_rfl) (by kernel_rfl) (by kernel_rfl) (by exact fun _ _ _ h => h) (Or.inl ⟨by rfl, ?_⟩) h0 ?_
    rotate_left
    · intro W hW
      go_simp
      all_goals with_reducible rfl
    try simp only [Act.put, List.setIfInBounds_toArray, List.set_cons_zero, List.set_cons_succ]
    refine wpAnyH_take (i := 1) (v := ?_) (by rw [List.getElem?_toArray]; rfl) (by kernel_rfl) (by kernel_rfl) (by kernel_rfl) (by exact fun _ _ _ h => h) (Or.inl ⟨by rfl, ?_⟩) h0 ?_
    rotate_left
    · intro W hW
      go_simp
      all_goals with_reducible rfl
    try simp only [Act.put, List.setIfInBounds_toArray, List.set_cons_zero, List.set_cons_succ]
    refine wpAnyH_take (i := 2) (v := ?_) (by rw [List.getElem?_toArray]; rfl) (by kernel_rfl) (by kernel_rfl) (by kernel_rfl) (by exact fun _ _ _ h => h) (Or.inl ⟨by rfl, ?_⟩) h0 ?_
    rotate_left
    · intro W hW
      go_simp
      all_goals with_reducible rfl
    try simp only [Act.put, List.setIfInBounds_toArray, List.set_cons_zero, List.set_cons_succ]
    refine wpAnyH_take (i := 3) (v := ?_) (by rw [List.getElem?_toArray]; rfl) (by kernel_rfl) (by kernel_rfl) (by kernel_rfl) (by exact fun _ _ _ h => h) (Or.inl ⟨by rfl, ?_⟩) h0 ?_
    rotate_left
    · intro W hW
      have cc := hW.1
      go_simp
      all_goals with_reducible rfl
    try simp only [Act.put, List.setIfInBounds_toArray, List.set_cons_zero, List.set_cons_succ]
    refine wpAnyH_take (i := 4) (v := ?_) (by rw [List.getElem?_toArray]; rfl) (by kernel_rfl) (by kernel_rfl) (by kernel_rfl) (by exact fun _ _ _ h => h) (Or.inl ⟨by rfl, ?_⟩) h0 ?_
    rotate_left
    · intro W hW
      have cc := hW.2.1.row HKY.out.len
      go_simp
      all_goals with_reducible rfl
    try simp only [Act.put, List.setIfInBounds_toArray, List.set_cons_zero, List.set_cons_succ]
    refine wpAnyH_take (i := 5) (v := ?_) (by rw [List.getElem?_toArray]; rfl) (by kernel_rfl) (by kernel_rfl) (by kernel_rfl) (by exact fun _ _ _ h => h) (Or.inl ⟨by rfl, ?_⟩) h0 ?_
    rotate_left
    · intro W hW
      have cc := hW.2.2.row LV.out
      go_simp
      all_goals with_reducible rfl
    try simp only [Act.put, List.setIfInBounds_toArray, List.set_cons_zero, List.set_cons_succ]
    refine wpAnyH_ready (rs := [6]) (by kernel_rfl) (by simp) ?_
    refine AllReadyH.cons (by rw [List.getElem?_toArray]; rfl) (fun K hK => ?_) AllReadyH.nil
    rw [if_pos (by rfl)]
    have hup := upd_old (V := V) Mx.out.s.mp EW.out.b.ok HKY.out.len HKY.out.by_ HF.out
    have hs3 := putMap_size w2 m (mes (E.modify i fun e => { e with v := V })) c
    have M3 := Lib.hid (Mx.out.s.putMap (mes (E.modify i fun e => { e with v := V })) c)
    have T3 := Lib.hid (Mx.out.t.chg (putMap_chg w2 m (mes (E.modify i fun e => { e with v := V })) c) (fun g h1 h2 => Mx.out.m (by obtain rfl := List.mem_singleton.1 h2; exact h1)))
    have K3 : Hid (HashAt (putMap w2 m (mes (E.modify i fun e => { e with v := V })) c) w.heap.size Ky) := by
      show _ = _
      rw [putMap_other (by have := HMM.out; omega)]; exact HKx.out
    have V3 : Hid (HashAt (putMap w2 m (mes (E.modify i fun e => { e with v := V })) c) (w.heap.size + 1) V) := by
      show _ = _
      rw [putMap_other (by have := HMM.out; omega)]; exact HVx.out
    have C3 := Lib.hid ((Chg.below Bx.out (Nat.le_refl _) (p :: m :: bl)).putMap (b := m) (.inl (by simp)) (mes (E.modify i fun e => { e with v := V })) c)
    have c3 := M3.out.c0
    go_wp2_with fail
    refine hK.out _ _ (⟨c3, K3.out, V3.out⟩) (fun h3 => ?_)
    clear hK K
    try simp only [Act.put, List.setIfInBounds_toArray, List.set_cons_zero, List.set_cons_succ]
    refine wpAnyH_done (by kernel_rfl) ?_ _
    have CX := Lib.hid Mx.out
    clear h3 h0 c3 V3 Mx HKx HVx hup Bx
    have hs4 : Hid (w.heap.size + 2 ≤ (putMap w2 m (mes (E.modify i fun e => { e with v := V })) c).heap.size) := by show _ ≤ _; rw [hs3]; exact HSX.out
    clear hs3
    generalize putMap w2 m (mes (E.modify i fun e => { e with v := V })) c = w3 at *
    go_wp2_with fail
    refine wp_region_held_drew (S := fun W => HashAt W w.heap.size Ky) (by kernel_rfl) (K3.out.on ((Below.refl _ _).drew)) (fun h0 => ?_)
    replace M3 := Lib.hid (M3.out.on ((Below.refl _ _).drew))
    replace T3 := Lib.hid (T3.out.on ((Below.refl _ _).drew))
    replace K3 := Lib.hid (K3.out.on ((Below.refl _ _).drew))
    replace C3 := Lib.hid C3.out.drew
    replace hs4 : Hid (w.heap.size + 2 ≤ w3.drew.heap.size) := hs4
    generalize w3.drew = w3 at *
    refine wpAnyH_take (i := 0) (v := ?_) (by rw [List.getElem?_toArray]; rfl) (by kernel_rfl) (by kernel_rfl) (by kernel_rfl) (by exact fun _ _ _ h => h) (Or.inl ⟨by rfl, ?_⟩) h0 ?_
    rotate_left
    · intro W hW
      go_simp
      all_goals with_reducible rfl
    try simp only [Act.put, List.setIfInBounds_toArray, List.set_cons_zero, List.set_cons_succ]
    refine wpAnyH_take (i := 1) (v := ?_) (by rw [List.getElem?_toArray]; rfl) (by kernel_rfl) (by kernel_rfl) (by kernel_rfl) (by exact fun _ _ _ h => h) (Or.inl ⟨by rfl, ?_⟩) h0 ?_
    rotate_left
    · intro W hW
      go_simp
      all_goals with_reducible rfl
    try simp only [Act.put, List.setIfInBounds_toArray, List.set_cons_zero, List.set_cons_succ]
    refine wpAnyH_take (i := 2) (v := ?_) (by rw [List.getElem?_toArray]; rfl) (by kernel_rfl) (by kernel_rfl) (by kernel_rfl) (by exact fun _ _ _ h => h) (Or.inl ⟨by rfl, ?_⟩) h0 ?_
    rotate_left
    · intro W hW
      go_simp
      all_goals with_reducible rfl
    try simp only [Act.put, List.setIfInBounds_toArray, List.set_cons_zero, List.set_cons_succ]
    refine wpAnyH_take (i := 4) (v := ?_) (by rw [List.getElem?_toArray]; rfl) (by kernel_rfl) (by kernel_rfl) (by kernel_rfl) (by exact fun _ _ _ h => h) (Or.inl ⟨by rfl, ?_⟩) h0 ?_
    rotate_left
    · intro W hW
      have cc := hW.row HKY.out.len
      go_simp
      all_goals with_reducible rfl
    try simp only [Act.put, List.setIfInBounds_toArray, List.set_cons_zero, List.set_cons_succ]
    refine wpAnyH_ready (rs := [3]) (by kernel_rfl) (by simp) ?_
    refine AllReadyH.cons (by rw [List.getElem?_toArray]; rfl) (fun K hK => ?_) AllReadyH.nil
    rw [if_pos (by rfl)]
    have ct := M3.out.c1
    go_wp2_with fail
    refine hK.out _ _ (h0) (fun h4 => ?_)
    clear hK K
    try simp only [Act.put, List.setIfInBounds_toArray, List.set_cons_zero, List.set_cons_succ]
    refine wpAnyH_ready (rs := [5]) (by kernel_rfl) (by simp) ?_
    refine AllReadyH.cons (by rw [List.getElem?_toArray]; rfl) (fun K hK => ?_) AllReadyH.nil
    rw [if_pos (by rfl)]
    go_wp2_with fail
    refine (forget_top (E' := E.modify i fun e => { e with v := V }) HKY.out T3.out (fun k hk => by rw [OVER.out.2.1 k, if_neg hk]) HKS.out HIN.out).mono ?_
    rintro e w4 ⟨rfl, c4, t4⟩
    have M4 := Lib.hid (M3.out.chg c4 CX.out.p CX.out.m)
    have C4 := Lib.hid (C3.out.trans (T := p :: m :: bl) (c4.wider (fun g hg => by simp [hg])) (fun g hg _ => hg))
    have K4 := Lib.hid (K3.out.chg' c4 (fun h => by have := CX.out.t.lt; have := LTB.out _ h; omega))
    have T4 := Lib.hid t4
    go_wp2_with fail
    refine hK.out _ _ (K4.out) (fun h5 => ?_)
    clear hK K
    try simp only [Act.put, List.setIfInBounds_toArray, List.set_cons_zero, List.set_cons_succ]
    refine wpAnyH_done (by kernel_rfl) ?_ _
    go_wp2_with fail
    go_ret
    have hg := OVER.out
    have hl : (E.modify i fun e => { e with v := V }).length = E.length := by simp
    exact ⟨rfl, C4.out, E.modify i fun e => { e with v := V }, c, top, bl, ⟨M4.out, T4.out, hg.1, CX.out.n.over i V, CX.out.p, CX.out.m⟩, fun g h => .inl h, hg.2.1, by omega, by omega⟩
end Go.Proofs.YtjlodnecdngdfaaDoor
