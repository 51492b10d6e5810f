/-
  ClaimHolds returns true for every trace and every choices, and leaves its arguments: who posts honestly, of a true beginning and a true end, keeps both true, whatever is chosen.
-/
import Derived.Test.YtcogoncekbiacaaKnows16
import Derived.Test.YtcogoncekbiacaaJudge
import Derived.Deep.CutRange
namespace Go.Proofs.Ytcogoncekbiacaa
open Go.RowKit

theorem cthen {B : Nat} {a w w' : World} (h : Below B a w) (k : Below w.heap.size w w') (hB : B ≤ w.heap.size) : Below B a w' := h.trans (k.mono hB)

/-- q leads to m bools. -/
def BoP (w : World) (q : Option Addr) (m : Nat) (C : Nat → Bool) : Prop := ∀ i, i < m → ∃ b o, q = some ⟨b, o, none⟩ ∧ b < w.heap.size ∧ w.cell? ⟨b, o + i, none⟩ = some (.bool (C i))
theorem BoP.on {w w' : World} {q : Option Addr} {m : Nat} {C : Nat → Bool} (h : BoP w q m C) (hb : Below w.heap.size w w') : BoP w' q m C := fun i hi => by
  obtain ⟨b, o, hp, hlt, hr⟩ := h i hi
  exact ⟨b, o, hp, by have := hb.size; omega, by rw [hb.cell hlt]; exact hr⟩

/-- What stands all along: both slices, and what was there before. -/
structure Kp (w : World) (p : Option Addr) (n : Nat) (T : Nat → List Int) (q : Option Addr) (m : Nat) (C : Nat → Bool) (W : World) : Prop where
  T : TrP W p n T
  C : BoP W q m C
  B : Below w.heap.size w W
section
variable {w W W' : World} {p q : Option Addr} {n m : Nat} {T : Nat → List Int} {C : Nat → Bool}
theorem Kp.on (h : Kp w p n T q m C W) (hb : Below W.heap.size W W') : Kp w p n T q m C W' := ⟨h.T.on hb, h.C.on hb, cthen h.B hb h.B.size⟩
theorem Kp.drew (h : Kp w p n T q m C W) : Kp w p n T q m C W.drew := ⟨h.T, h.C, h.B.drew⟩
theorem Kp.alloc (h : Kp w p n T q m C W) (o : Obj) : Kp w p n T q m C (W.alloc o) := h.on ((Below.refl _ _).alloc (Nat.le_refl _) o)
end

theorem hold_facts {s : Seg} {T : Nat → List Int} (hs : s.ok) (hr : s.right = true) (hl : s.last = false) (ef : s.f = T s.lo.toNat) (et : s.t = T s.hi.toNat) (hF : (T s.middle.toNat).length = 32) (agree : Bool) :
    ∃ q : Seg, Seg.choose { s with m := T s.middle.toNat, p := true } agree = (q, 0) ∧ q.ok ∧ q.right = true ∧ q.p = false ∧ q.f = T q.lo.toNat ∧ q.t = T q.hi.toNat ∧ 0 ≤ q.lo ∧ q.lo < q.hi ∧ q.hi ≤ s.hi ∧ 2 * (q.hi - q.lo - 1) ≤ s.hi - s.lo - 1 := by
  have ⟨l1, l2, l3⟩ := Seg.right_lo hr
  have l4 : ¬ s.hi - s.lo = 1 := by simpa [Seg.last, hr] using hl
  have hr' : Seg.right { s with m := T s.middle.toNat, p := true } = true := by simp [Seg.right]; omega
  have hm : Seg.middle { s with m := T s.middle.toNat, p := true } = s.middle := by
    unfold Seg.middle at hr' ⊢
    rw [hr', hr]
  have e : s.middle = (s.lo + s.hi) / 2 := by simp [Seg.middle, hr]
  have b1 : s.lo < s.middle := by omega
  have b2 : s.middle < s.hi := by omega
  cases agree
  · refine ⟨⟨s.lo, s.middle, s.f, T s.middle.toNat, zero32, false⟩, by simp [Seg.choose, hr', hm], ⟨hs.lo1, hs.lo2, by show _ ≤ s.middle; omega, by show s.middle < _; omega, hs.f, hF, zero32_len⟩, by simp [Seg.right]; omega, rfl, ef, rfl, l1, b1, by show s.middle ≤ s.hi; omega, ?_⟩
    show 2 * (s.middle - s.lo - 1) ≤ s.hi - s.lo - 1; omega
  · refine ⟨⟨s.middle, s.hi, T s.middle.toNat, s.t, zero32, false⟩, by simp [Seg.choose, hr', hm], ⟨by show _ ≤ s.middle; omega, by show s.middle < _; omega, hs.hi1, hs.hi2, hF, hs.t, zero32_len⟩, by simp [Seg.right]; omega, rfl, rfl, et, by show 0 ≤ s.middle; omega, b2, by show s.hi ≤ s.hi; omega, ?_⟩
    show 2 * (s.hi - s.middle - 1) ≤ s.hi - s.lo - 1; omega

/-- Between rounds: the segment in block b, i rounds old. -/
structure LH (w : World) (p : Option Addr) (n : Nat) (T : Nat → List Int) (q : Option Addr) (m : Nat) (C : Nat → Bool) (b i : Nat) (s : Seg) (W : World) : Prop where
  K : Kp w p (n + 1) T q m C W
  bb : w.heap.size ≤ b
  S : SegAt W b 26 s
  ok : s.ok
  rr : s.right = true
  pp : s.p = false
  ff : s.f = T s.lo.toNat
  tt : s.t = T s.hi.toNat
  hh : s.hi ≤ n
  ii : i ≤ 12
  dd : (s.hi - s.lo - 1) * 2 ^ i ≤ 4095

abbrev S4 (w : World) (p : Option Addr) (n : Nat) (T : Nat → List Int) (q : Option Addr) (m : Nat) (C : Nat → Bool) (tb o : Nat) (W : World) : Prop :=
  rowOf W tb o 32 = hc (T 0) ∧ rowOf W tb (o + n * 32) 32 = hc (T n) ∧ tb < W.heap.size ∧ Kp w p (n + 1) T q m C W
section
variable {w W W' : World} {p q : Option Addr} {n m tb o : Nat} {T : Nat → List Int} {C : Nat → Bool}
theorem S4_on (h : S4 w p n T q m C tb o W) (hb : Below W.heap.size W W') : S4 w p n T q m C tb o W' := by
  obtain ⟨a, b, c, d⟩ := h
  exact ⟨by rw [rowOf_below hb c]; exact a, by rw [rowOf_below hb c]; exact b, by have := hb.size; omega, d.on hb⟩
theorem S4_drew (h : S4 w p n T q m C tb o W) : S4 w p n T q m C tb o W.drew := ⟨h.1, h.2.1, h.2.2.1, h.2.2.2.drew⟩
end

theorem post_ok' {s : Seg} {F : List Int} (hr : s.right = true) (hp : s.p = false) (hl : s.last = false) : s.post F = ({ s with m := F, p := true }, 0) := by simp [Seg.post, hr, hp, hl]
theorem honest_ok {s : Seg} {n : Nat} {T : Nat → List Int} (hr : s.right = true) (hp : s.p = false) (hl : s.last = false) (hn : s.middle < n) : s.honest n T = (T s.middle.toNat, true) := by
  have hd : decide ((n : Int) ≤ s.middle) = false := by simpa using hn
  unfold Seg.honest; rw [hr, hp, hl, hd]; rfl
def intH : Value → Int | .int _ q => q | _ => 0

abbrev S12 (w : World) (p : Option Addr) (n : Nat) (T : Nat → List Int) (q : Option Addr) (m : Nat) (C : Nat → Bool) (pb sb cb ci : Nat) (v : Value) (P s : Seg) (W : World) : Prop :=
  rowOf W pb 0 99 = P.row ∧ W.cell? ⟨cb, ci, none⟩ = some v ∧ cb < W.heap.size ∧ SegAt W pb 26 P ∧ SegAt W sb 26 s ∧ Kp w p (n + 1) T q m C W
section
variable {w W W' : World} {p q : Option Addr} {n m pb sb cb ci : Nat} {T : Nat → List Int} {C : Nat → Bool} {v : Value} {P s : Seg}
theorem S12_on (hP : P.ok) (h : S12 w p n T q m C pb sb cb ci v P s W) (hb : Below W.heap.size W W') : S12 w p n T q m C pb sb cb ci v P s W' := by
  obtain ⟨-, b, c, d, e, f⟩ := h
  exact ⟨(d.on hb).whole hP, by rw [hb.cell c]; exact b, by have := hb.size; omega, d.on hb, e.on hb, f.on hb⟩
theorem S12_drew (h : S12 w p n T q m C pb sb cb ci v P s W) : S12 w p n T q m C pb sb cb ci v P s W.drew := ⟨h.1, h.2.1, h.2.2.1, h.2.2.2.1.drew, h.2.2.2.2.1.drew, h.2.2.2.2.2.drew⟩
end

/-- Behind the choice: the segment in sb, its successor in qb. -/
structure M12 (w : World) (p : Option Addr) (n : Nat) (T : Nat → List Int) (q : Option Addr) (m : Nat) (C : Nat → Bool) (sb qb : Nat) (s x : Seg) (W : World) : Prop where
  K : Kp w p (n + 1) T q m C W
  S : SegAt W sb 26 s
  X : SegAt W qb 26 x
  ne : sb ≠ qb

abbrev S13 (tb o qb ql qh : Nat) (T : Nat → List Int) (W : World) : Prop :=
  W.cell? ⟨qb, 0, none⟩ = some (.int .i64 ql) ∧ W.cell? ⟨qb, 1, none⟩ = some (.int .i64 qh) ∧ rowOf W qb 2 32 = hc (T ql) ∧ rowOf W qb 34 32 = hc (T qh) ∧ rowOf W tb (o + ql * 32) 32 = hc (T ql) ∧ rowOf W tb (o + qh * 32) 32 = hc (T qh)

set_option maxRecDepth 100000 in
set_option maxHeartbeats 8000000 in
theorem Holds_walk {p q : Option Addr} {n1 cap m capc : Nat} {T : Nat → List Int} {C : Nat → Bool} (hcap : n1 ≤ maxLen) (hm : m ≤ maxLen) (w : World) (hT : TrP w p n1 T) (hC : BoP w q m C) :
    Calls Try.prog 6 #[.slice p n1 cap, .slice q m capc] w fun e w' => e = .returned (.bool true) ∧ Below w.heap.size w w' := by
  have Hc := hcap
  have Hm := hm
  unfold maxLen at Hc Hm
  by_cases hn : (n1 : Int) - 1 < 1 ∨ 4096 < (n1 : Int) - 1
  · go_enter Try.func6, Try.ntmps6
    rcases Int.lt_or_le ((n1 : Int) - 1) 1 with h1 | h1
    · go_wp2_with fail
      refine (knows_any _).mono ?_
      rintro e w1 ⟨rfl, hb⟩
      go_wp2_with fail
      go_ret
      exact ⟨rfl, hb⟩
    · have h2 : 4096 < (n1 : Int) - 1 := by omega
      go_wp2_with fail
      refine (knows_any _).mono ?_
      rintro e w1 ⟨rfl, hb⟩
      go_wp2_with fail
      go_ret
      exact ⟨rfl, hb⟩
  · obtain ⟨n, rfl⟩ : ∃ n : Nat, n1 = n + 1 := ⟨n1 - 1, by omega⟩
    have h1 : 1 ≤ (n : Int) := by omega
    have h2 : (n : Int) ≤ 4096 := by omega
    have en : ((n + 1 : Nat) : Int) - 1 = n := by omega
    clear hn hcap hm
    have hK : Kp w p (n + 1) T q m C w := ⟨hT, hC, Below.refl _ _⟩
    obtain ⟨tb, o, rfl, hlb, hl0, hr0⟩ := hT 0 (by omega)
    obtain ⟨tb', o', e', _, hln, hrn⟩ := hT n (by omega)
    obtain ⟨rfl, rfl⟩ : tb = tb' ∧ o = o' := by simpa using e'
    clear e'
    have hS0 : S4 w (some ⟨tb, o, none⟩) n T q m C tb o w := ⟨by simpa using hr0, hrn, hlb, hK⟩
    have E := Lib.hid (show Seg.opened n (T 0) (T n) = (⟨0, n, T 0, T n, zero32, false⟩, 0) from if_neg (by omega))
    have hsok : Seg.ok ⟨0, n, T 0, T n, zero32, false⟩ := ⟨by show _ ≤ (0 : Int); omega, by show (0 : Int) < _; omega, by show _ ≤ (n : Int); omega, by show (n : Int) < _; omega, hl0, hln, zero32_len⟩
    have hn1 : (n : Int) < (n : Int) + 1 := by omega
    clear hT hC hK hr0 hrn
    go_enter Try.func6, Try.ntmps6
    go_upto_region 4 with fail
    go_cut [6, 7] from 25 to 36 (fun s6 s7 wx => ∃ sb : Nat, s6 = .pointer (some ⟨sb, 0, none⟩) ∧ s7 = .int .i64 0 ∧ Hid (LH w (some ⟨tb, o, none⟩) n T q m C sb 0 ⟨0, n, T 0, T n, zero32, false⟩ wx))
    case first =>
      refine wp_region_held_drew (S := S4 w (some ⟨tb, o, none⟩) n T q m C tb o) (by kernel_rfl) (S4_drew hS0) (fun h0 => ?_)
      refine wpAnyH_take (i := 0) (v := ?_) (by rw [List.getElem?_toArray]; rfl) (by kernel_rfl) (by kernel_rfl) (by kernel_rfl) (by exact fun _ _ _ h => h) (Or.inl ⟨by rfl, ?_⟩) h0 ?_
      rotate_left
      · intro W hW
        obtain ⟨d0, dn, -, -⟩ := hW
        go_simp
        all_goals with_reducible rfl
      simp only [Act.put, List.setIfInBounds_toArray, List.set_cons_zero, List.set_cons_succ]
      refine wpAnyH_take (i := 1) (v := ?_) (by rw [List.getElem?_toArray]; rfl) (by kernel_rfl) (by kernel_rfl) (by kernel_rfl) (by exact fun _ _ _ h => h) (Or.inl ⟨by rfl, ?_⟩) h0 ?_
      rotate_left
      · intro W hW
        obtain ⟨d0, dn, -, -⟩ := hW
        go_simp
        all_goals with_reducible rfl
      simp only [Act.put, List.setIfInBounds_toArray, List.set_cons_zero, List.set_cons_succ]
      refine wpAnyH_take (i := 2) (v := ?_) (by rw [List.getElem?_toArray]; rfl) (by kernel_rfl) (by kernel_rfl) (by kernel_rfl) (by exact fun _ _ _ h => h) (Or.inl ⟨by rfl, ?_⟩) h0 ?_
      rotate_left
      · intro W hW
        obtain ⟨d0, dn, -, -⟩ := hW
        go_simp
        all_goals with_reducible rfl
      simp only [Act.put, List.setIfInBounds_toArray, List.set_cons_zero, List.set_cons_succ]
      refine wpAnyH_take (i := 3) (v := ?_) (by rw [List.getElem?_toArray]; rfl) (by kernel_rfl) (by kernel_rfl) (by kernel_rfl) (by exact fun _ _ _ h => h) (Or.inl ⟨by rfl, ?_⟩) h0 ?_
      rotate_left
      · intro W hW
        obtain ⟨d0, dn, -, -⟩ := hW
        go_simp
        all_goals with_reducible rfl
      simp only [Act.put, List.setIfInBounds_toArray, List.set_cons_zero, List.set_cons_succ]
      refine wpAnyH_take (i := 4) (v := ?_) (by rw [List.getElem?_toArray]; rfl) (by kernel_rfl) (by kernel_rfl) (by kernel_rfl) (by exact fun _ _ _ h => h) (Or.inl ⟨by rfl, ?_⟩) h0 ?_
      rotate_left
      · intro W hW
        obtain ⟨d0, dn, -, -⟩ := hW
        go_simp
        all_goals with_reducible rfl
      simp only [Act.put, List.setIfInBounds_toArray, List.set_cons_zero, List.set_cons_succ]
      refine wpAnyH_take (i := 5) (v := ?_) (by rw [List.getElem?_toArray]; rfl) (by kernel_rfl) (by kernel_rfl) (by kernel_rfl) (by exact fun _ _ _ h => h) (Or.inl ⟨by rfl, ?_⟩) h0 ?_
      rotate_left
      · intro W hW
        obtain ⟨d0, dn, -, -⟩ := hW
        go_simp
        all_goals with_reducible rfl
      simp only [Act.put, List.setIfInBounds_toArray, List.set_cons_zero, List.set_cons_succ]
      refine wpAnyH_take (i := 6) (v := ?_) (by rw [List.getElem?_toArray]; rfl) (by kernel_rfl) (by kernel_rfl) (by kernel_rfl) (by exact fun _ _ _ h => h) (Or.inl ⟨by rfl, ?_⟩) h0 ?_
      rotate_left
      · intro W hW
        obtain ⟨d0, dn, -, -⟩ := hW
        go_simp
        all_goals with_reducible rfl
      simp only [Act.put, List.setIfInBounds_toArray, List.set_cons_zero, List.set_cons_succ]
      refine wpAnyH_take (i := 7) (v := ?_) (by rw [List.getElem?_toArray]; rfl) (by kernel_rfl) (by kernel_rfl) (by kernel_rfl) (by exact fun _ _ _ h => h) (Or.inl ⟨by rfl, ?_⟩) h0 ?_
      rotate_left
      · intro W hW
        obtain ⟨d0, dn, -, -⟩ := hW
        go_simp
        all_goals with_reducible rfl
      simp only [Act.put, List.setIfInBounds_toArray, List.set_cons_zero, List.set_cons_succ]
      refine wpAnyH_ready (rs := [8, 12]) (by kernel_rfl) (by simp) ?_
      refine AllReadyH.cons (by rw [List.getElem?_toArray]; rfl) (fun K hK => ?_) (AllReadyH.cons (by rw [List.getElem?_toArray]; rfl) (fun K hK => ?_) AllReadyH.nil)
      · go_wp2_with fail
        refine (Open_any hl0 hln _).mono ?_
        rintro e w1 ⟨rfl, hb1⟩
        rw [E.out]
        clear E
        generalize hg : (⟨0, n, T 0, T n, zero32, false⟩ : Seg) = s0 at hsok ⊢
        have Hg := Lib.hid hg
        clear hg
        go_wp2_with fail
        refine hK.out _ _ (S4_on h0 hb1) (fun h01 => ?_)
        clear hK K
        refine wpAnyH_take (i := 9) (v := ?_) (by rw [List.getElem?_toArray]; rfl) (by kernel_rfl) (by kernel_rfl) (by kernel_rfl) (by exact fun _ _ _ h => h) (Or.inl ⟨by rfl, ?_⟩) h01 ?_
        rotate_left
        · intro W hW
          obtain ⟨d0, dn, -, -⟩ := hW
          go_simp
          all_goals with_reducible rfl
        simp only [Act.put, List.setIfInBounds_toArray, List.set_cons_zero, List.set_cons_succ]
        refine wpAnyH_take (i := 10) (v := ?_) (by rw [List.getElem?_toArray]; rfl) (by kernel_rfl) (by kernel_rfl) (by kernel_rfl) (by exact fun _ _ _ h => h) (Or.inl ⟨by rfl, ?_⟩) h01 ?_
        rotate_left
        · intro W hW
          obtain ⟨d0, dn, -, -⟩ := hW
          go_simp
          all_goals with_reducible rfl
        simp only [Act.put, List.setIfInBounds_toArray, List.set_cons_zero, List.set_cons_succ]
        refine wpAnyH_take (i := 11) (v := ?_) (by rw [List.getElem?_toArray]; rfl) (by kernel_rfl) (by kernel_rfl) (by kernel_rfl) (by exact fun _ _ _ h => h) (Or.inl ⟨by rfl, ?_⟩) h01 ?_
        rotate_left
        · intro W hW
          obtain ⟨d0, dn, -, -⟩ := hW
          go_simp
          all_goals with_reducible rfl
        simp only [Act.put, List.setIfInBounds_toArray, List.set_cons_zero, List.set_cons_succ]
        refine wpAnyH_ready (rs := [12]) (by kernel_rfl) (by simp) ?_
        refine AllReadyH.cons (by rw [List.getElem?_toArray]; rfl) (fun K hK => ?_) AllReadyH.nil
        rw [if_pos (by rfl)]
        go_wp2_with fail
        refine hK.out _ _ (S4_on h01 ((Below.refl _ _).alloc (Nat.le_refl _) _)) (fun h02 => ?_)
        clear hK K
        have X1 := SegAt.new w1 26 seg0
        refine wpAnyH_ready (rs := [13]) (by kernel_rfl) (by simp) ?_
        refine AllReadyH.cons (by rw [List.getElem?_toArray]; rfl) (fun K hK => ?_) AllReadyH.nil
        have th := X1.there seg0_ok (o := 0) (n := 99) (by omega)
        rw [if_pos (by rfl)]
        refine wp_store_mid _ _ _ rfl _ _ (List.toArray s0.row) rfl rfl (by simpa [Seg.len hsok.f hsok.t hsok.m] using th) (by rw [List.size_toArray, Seg.len hsok.f hsok.t hsok.m]; kernel_rfl) (Seg.one s0) ?_
        refine hK.out _ _ (S4_on h01 (below_setCells' w1.heap.size (Nat.le_refl _) _ _ ((Below.refl _ _).alloc (Nat.le_refl _) _))) (fun h03 => ?_)
        clear hK K
        simp only [Act.put]
        refine wpAnyH_take (i := 14) (v := ?_) (by rw [List.getElem?_toArray]; rfl) (by kernel_rfl) (by kernel_rfl) (by kernel_rfl) (by exact fun _ _ _ h => h) (Or.inl ⟨by rfl, ?_⟩) h03 ?_
        rotate_left
        · intro W hW
          obtain ⟨d0, dn, -, -⟩ := hW
          go_simp
          all_goals with_reducible rfl
        simp only [Act.put, List.setIfInBounds_toArray, List.set_cons_zero, List.set_cons_succ]
        refine wpAnyH_done (by kernel_rfl) ?_ _
        have X2 := X1.setAll seg0_ok hsok
        have K3 := h03.2.2.2
        go_wp2_with fail
        go_meet
        refine ⟨_, rfl, rfl, ?_⟩
        have hg := Hg.out
        subst hg
        exact Lib.hid ⟨K3, by first | exact Nat.le_refl _ | exact h01.2.2.2.B.size, X2, hsok, by simp [Seg.right]; omega, rfl, rfl, by simp, by simp, by omega, by simp; omega⟩
      · rw [if_pos (by rfl)]
        go_wp2_with fail
        refine hK.out _ _ (S4_on h0 ((Below.refl _ _).alloc (Nat.le_refl _) _)) (fun h01 => ?_)
        clear hK K
        have X0 := SegAt.new w.drew 26 seg0
        refine wpAnyH_ready (rs := [8]) (by kernel_rfl) (by simp) ?_
        refine AllReadyH.cons (by rw [List.getElem?_toArray]; rfl) (fun K hK => ?_) AllReadyH.nil
        go_wp2_with fail
        refine (Open_any hl0 hln _).mono ?_
        rintro e w1 ⟨rfl, hb1⟩
        rw [E.out]
        clear E
        generalize hg : (⟨0, n, T 0, T n, zero32, false⟩ : Seg) = s0 at hsok ⊢
        have Hg := Lib.hid hg
        clear hg
        go_wp2_with fail
        refine hK.out _ _ (S4_on h01 hb1) (fun h02 => ?_)
        clear hK K
        have X1 := X0.on hb1
        refine wpAnyH_take (i := 9) (v := ?_) (by rw [List.getElem?_toArray]; rfl) (by kernel_rfl) (by kernel_rfl) (by kernel_rfl) (by exact fun _ _ _ h => h) (Or.inl ⟨by rfl, ?_⟩) h02 ?_
        rotate_left
        · intro W hW
          obtain ⟨d0, dn, -, -⟩ := hW
          go_simp
          all_goals with_reducible rfl
        simp only [Act.put, List.setIfInBounds_toArray, List.set_cons_zero, List.set_cons_succ]
        refine wpAnyH_take (i := 10) (v := ?_) (by rw [List.getElem?_toArray]; rfl) (by kernel_rfl) (by kernel_rfl) (by kernel_rfl) (by exact fun _ _ _ h => h) (Or.inl ⟨by rfl, ?_⟩) h02 ?_
        rotate_left
        · intro W hW
          obtain ⟨d0, dn, -, -⟩ := hW
          go_simp
          all_goals with_reducible rfl
        simp only [Act.put, List.setIfInBounds_toArray, List.set_cons_zero, List.set_cons_succ]
        refine wpAnyH_take (i := 11) (v := ?_) (by rw [List.getElem?_toArray]; rfl) (by kernel_rfl) (by kernel_rfl) (by kernel_rfl) (by exact fun _ _ _ h => h) (Or.inl ⟨by rfl, ?_⟩) h02 ?_
        rotate_left
        · intro W hW
          obtain ⟨d0, dn, -, -⟩ := hW
          go_simp
          all_goals with_reducible rfl
        simp only [Act.put, List.setIfInBounds_toArray, List.set_cons_zero, List.set_cons_succ]
        refine wpAnyH_ready (rs := [13]) (by kernel_rfl) (by simp) ?_
        refine AllReadyH.cons (by rw [List.getElem?_toArray]; rfl) (fun K hK => ?_) AllReadyH.nil
        have th := X1.there seg0_ok (o := 0) (n := 99) (by omega)
        rw [if_pos (by rfl)]
        refine wp_store_mid _ _ _ rfl _ _ (List.toArray s0.row) rfl rfl (by simpa [Seg.len hsok.f hsok.t hsok.m] using th) (by rw [List.size_toArray, Seg.len hsok.f hsok.t hsok.m]; kernel_rfl) (Seg.one s0) ?_
        refine hK.out _ _ (S4_on hS0 (below_setCells' w.heap.size (Nat.le_refl _) _ _ (cthen (((Below.refl _ _).alloc (Nat.le_refl _) _).drew) hb1 (by simp)))) (fun h03 => ?_)
        clear hK K
        simp only [Act.put]
        refine wpAnyH_take (i := 14) (v := ?_) (by rw [List.getElem?_toArray]; rfl) (by kernel_rfl) (by kernel_rfl) (by kernel_rfl) (by exact fun _ _ _ h => h) (Or.inl ⟨by rfl, ?_⟩) h03 ?_
        rotate_left
        · intro W hW
          obtain ⟨d0, dn, -, -⟩ := hW
          go_simp
          all_goals with_reducible rfl
        simp only [Act.put, List.setIfInBounds_toArray, List.set_cons_zero, List.set_cons_succ]
        refine wpAnyH_done (by kernel_rfl) ?_ _
        have X2 := X1.setAll seg0_ok hsok
        have K3 := h03.2.2.2
        go_wp2_with fail
        go_meet
        refine ⟨_, rfl, rfl, ?_⟩
        have hg := Hg.out
        subst hg
        exact Lib.hid ⟨K3, by first | exact Nat.le_refl _ | exact h01.2.2.2.B.size, X2, hsok, by simp [Seg.right]; omega, rfl, rfl, by simp, by simp, by omega, by simp; omega⟩
    case rest =>
      obtain ⟨sb, rfl, rfl, hL⟩ := hcut
      go_wp2_with fail
      refine (num_any _ _).mono ?_
      rintro e w3 ⟨rfl, rfl⟩
      go_wp2_with fail
      go_loopw [8] (fun iv wr => ∃ (i : Nat) (s : Seg), iv = .int .i64 i ∧ Hid (LH w (some ⟨tb, o, none⟩) n T q m C sb i s wr)) (fun iv _ => 20 - (intH iv).toNat)
      case atStart => exact ⟨0, _, rfl, hL⟩
      case round =>
        clear hL
        obtain ⟨i, s, rfl, hL⟩ := hrel
        have hs := hL.out.ok
        have ⟨hf, ht, hm'⟩ : s.f.length = 32 ∧ s.t.length = 32 ∧ s.m.length = 32 := ⟨hs.f, hs.t, hs.m⟩
        have hi20 : (i : Int) < 20 := by have := hL.out.ii; omega
        have cw := hL.out.S.whole hs
        go_wp2_with fail
        refine (Last_any hs _).mono ?_
        rintro e w2 ⟨rfl, hb⟩
        have K2 := Lib.hid (hL.out.K.on hb)
        have S2 := hL.out.S.on hb
        clear cw hb
        cases hl : s.last
        · have hr := hL.out.rr
          have hp := hL.out.pp
          have lmid := Seg.right_lo hr
          have l4 : ¬ s.hi - s.lo = 1 := by simpa [Seg.last, hr] using hl
          have em : s.middle = (s.lo + s.hi) / 2 := by simp [Seg.middle, hr]
          have hh := hL.out.hh
          obtain ⟨k, hk⟩ : ∃ k : Nat, s.middle = k := ⟨s.middle.toNat, by omega⟩
          have hkn : k < n + 1 := by omega
          have hTk : (T k).length = 32 := (K2.out.T k hkn).elim fun _ h => h.elim fun _ h => h.2.2.1
          have eh := honest_ok (n := n + 1) (T := T) hr hp hl (by omega)
          rw [hk, Int.toNat_natCast] at eh
          have EH := Lib.hid eh
          have HF : Hid (∀ agree : Bool, _) := Lib.hid (hold_facts (T := T) hs hr hl hL.out.ff hL.out.tt (by rw [hk, Int.toNat_natCast]; exact hTk))
          have HI := Lib.hid (And.intro hL.out.ii (And.intro hL.out.dd hL.out.bb))
          have HP := Lib.hid (post_ok' (F := T k) hr hp hl)
          have cw := S2.whole hs
          have lo1 : s.lo + 1 < s.hi := by omega
          clear hr hp lmid l4 em eh hL
          go_wp2_with fail
          have KH := Honest_any (cap := cap) hs w2 K2.out.T
          rw [EH.out] at KH
          refine KH.mono ?_
          clear KH
          rintro e w3 ⟨rfl, hb⟩
          have S3 := (S2.on hb).alloc (.cells (hc (T k)).toArray 23)
          have K3 := Lib.hid ((K2.out.on hb).alloc (.cells (hc (T k)).toArray 23))
          have H3 := HashAt.new w3 (T k)
          have cw := S3.whole hs
          have ch := H3.row hTk
          have zl := zero32_len
          clear S2 K2 hb EH
          go_wp2_with fail
          refine (Post_any hs hTk _).mono ?_
          rintro e w4 ⟨rfl, hb⟩
          rw [HP.out]
          have hP : Seg.ok { s with m := T k, p := true } := ⟨hs.lo1, hs.lo2, hs.hi1, hs.hi2, hs.f, hs.t, hTk⟩
          have HFk := HF.out
          rw [hk, Int.toNat_natCast] at HFk
          generalize ({ s with m := T k, p := true } : Seg) = P at HFk hP ⊢
          have HF2 := Lib.hid HFk
          clear HFk HF HP
          have ⟨pf, pt, pm⟩ : P.f.length = 32 ∧ P.t.length = 32 ∧ P.m.length = 32 := ⟨hP.f, hP.t, hP.m⟩
          have S4' := (S3.on hb).alloc (.cells P.row.toArray 26)
          have K4 := Lib.hid ((K3.out.on hb).alloc (.cells P.row.toArray 26))
          have P4 := SegAt.new w4 26 P
          have sw4 : sb < w4.heap.size := (S3.on hb).lt
          clear S3 K3 H3 cw ch hb
          go_upto_region 12 with fail
          generalize w4.alloc (.cells P.row.toArray 26) = W at S4' K4 P4 ⊢
          generalize w4.heap.size = pb at P4 sw4 ⊢
          go_cut [13, 14] from 61 to 75 (fun s13 s14 wy => ∃ (qb : Nat) (x : Seg) (ag : Bool) (wx : World), wx = wy ∧ s13 = .pointer (some ⟨qb, 0, none⟩) ∧ s14 = .int .i64 0 ∧ Hid (P.choose ag = (x, 0) ∧ M12 w (some ⟨tb, o, none⟩) n T q m C sb qb s x wx))
          case first =>
            by_cases him : i < m
            · obtain ⟨cb, co, rfl, hcb, hci⟩ := K4.out.C i him
              have hiI : (i : Int) < (m : Int) := by omega
              have hS12 : S12 w (some ⟨tb, o, none⟩) n T (some ⟨cb, co, none⟩) m C pb sb cb (co + i) (.bool (C i)) P s W := ⟨P4.whole hP, hci, hcb, P4, S4', K4.out⟩
              obtain ⟨x, ex, hx, -, -, -, -, -, -, -, -⟩ := HF2.out (C i)
              have ⟨sf, st, sm⟩ : x.f.length = 32 ∧ x.t.length = 32 ∧ x.m.length = 32 := ⟨hx.f, hx.t, hx.m⟩
              have EX := Lib.hid ex
              have sW := S4'.lt
              clear ex K4 S4' P4 HF2 HI E hsok hS0
              refine wp_region_held_drew (S := S12 w (some ⟨tb, o, none⟩) n T (some ⟨cb, co, none⟩) m C pb sb cb (co + i) (.bool (C i)) P s) (by kernel_rfl) (S12_drew hS12) (fun h0 => ?_)
              refine wpAnyH_take (i := 0) (v := ?_) (by rw [List.getElem?_toArray]; rfl) (by kernel_rfl) (by kernel_rfl) (by kernel_rfl) (by exact fun _ _ _ h => h) (Or.inl ⟨by rfl, ?_⟩) h0 ?_
              rotate_left
              · intro W hW
                obtain ⟨dp, dc, -, -, -, -⟩ := hW
                go_simp
                all_goals with_reducible rfl
              simp only [Act.put, List.setIfInBounds_toArray, List.set_cons_zero, List.set_cons_succ]
              refine wpAnyH_take (i := 1) (v := ?_) (by rw [List.getElem?_toArray]; rfl) (by kernel_rfl) (by kernel_rfl) (by kernel_rfl) (by exact fun _ _ _ h => h) (Or.inl ⟨by rfl, ?_⟩) h0 ?_
              rotate_left
              · intro W hW
                obtain ⟨dp, dc, -, -, -, -⟩ := hW
                go_simp
                all_goals with_reducible rfl
              simp only [Act.put, List.setIfInBounds_toArray, List.set_cons_zero, List.set_cons_succ]
              refine wpAnyH_take (i := 2) (v := ?_) (by rw [List.getElem?_toArray]; rfl) (by kernel_rfl) (by kernel_rfl) (by kernel_rfl) (by exact fun _ _ _ h => h) (Or.inl ⟨by rfl, ?_⟩) h0 ?_
              rotate_left
              · intro W hW
                obtain ⟨dp, dc, -, -, -, -⟩ := hW
                go_simp
                all_goals with_reducible rfl
              simp only [Act.put, List.setIfInBounds_toArray, List.set_cons_zero, List.set_cons_succ]
              refine wpAnyH_take (i := 3) (v := ?_) (by rw [List.getElem?_toArray]; rfl) (by kernel_rfl) (by kernel_rfl) (by kernel_rfl) (by exact fun _ _ _ h => h) (Or.inl ⟨by rfl, ?_⟩) h0 ?_
              rotate_left
              · intro W hW
                obtain ⟨dp, dc, -, -, -, -⟩ := hW
                go_simp
                all_goals with_reducible rfl
              simp only [Act.put, List.setIfInBounds_toArray, List.set_cons_zero, List.set_cons_succ]
              refine wpAnyH_take (i := 4) (v := ?_) (by rw [List.getElem?_toArray]; rfl) (by kernel_rfl) (by kernel_rfl) (by kernel_rfl) (by exact fun _ _ _ h => h) (Or.inl ⟨by rfl, ?_⟩) h0 ?_
              rotate_left
              · intro W hW
                obtain ⟨dp, dc, -, -, -, -⟩ := hW
                go_simp
                all_goals with_reducible rfl
              simp only [Act.put, List.setIfInBounds_toArray, List.set_cons_zero, List.set_cons_succ]
              refine wpAnyH_take (i := 5) (v := ?_) (by rw [List.getElem?_toArray]; rfl) (by kernel_rfl) (by kernel_rfl) (by kernel_rfl) (by exact fun _ _ _ h => h) (Or.inl ⟨by rfl, ?_⟩) h0 ?_
              rotate_left
              · intro W hW
                obtain ⟨dp, dc, -, -, -, -⟩ := hW
                go_simp
                all_goals with_reducible rfl
              simp only [Act.put, List.setIfInBounds_toArray, List.set_cons_zero, List.set_cons_succ]
              refine wpAnyH_take (i := 6) (v := ?_) (by rw [List.getElem?_toArray]; rfl) (by kernel_rfl) (by kernel_rfl) (by kernel_rfl) (by exact fun _ _ _ h => h) (Or.inl ⟨by rfl, ?_⟩) h0 ?_
              rotate_left
              · intro W hW
                obtain ⟨dp, dc, -, -, -, -⟩ := hW
                go_simp
                all_goals with_reducible rfl
              simp only [Act.put, List.setIfInBounds_toArray, List.set_cons_zero, List.set_cons_succ]
              refine wpAnyH_take (i := 7) (v := ?_) (by rw [List.getElem?_toArray]; rfl) (by kernel_rfl) (by kernel_rfl) (by kernel_rfl) (by exact fun _ _ _ h => h) (Or.inl ⟨by rfl, ?_⟩) h0 ?_
              rotate_left
              · intro W hW
                obtain ⟨dp, dc, -, -, -, -⟩ := hW
                go_simp
                all_goals with_reducible rfl
              simp only [Act.put, List.setIfInBounds_toArray, List.set_cons_zero, List.set_cons_succ]
              refine wpAnyH_take (i := 8) (v := ?_) (by rw [List.getElem?_toArray]; rfl) (by kernel_rfl) (by kernel_rfl) (by kernel_rfl) (by exact fun _ _ _ h => h) (Or.inl ⟨by rfl, ?_⟩) h0 ?_
              rotate_left
              · intro W hW
                obtain ⟨dp, dc, -, -, -, -⟩ := hW
                go_simp
                all_goals with_reducible rfl
              simp only [Act.put, List.setIfInBounds_toArray, List.set_cons_zero, List.set_cons_succ]
              refine wpAnyH_take (i := 9) (v := ?_) (by rw [List.getElem?_toArray]; rfl) (by kernel_rfl) (by kernel_rfl) (by kernel_rfl) (by exact fun _ _ _ h => h) (Or.inl ⟨by rfl, ?_⟩) h0 ?_
              rotate_left
              · intro W hW
                obtain ⟨dp, dc, -, -, -, -⟩ := hW
                go_simp
                all_goals with_reducible rfl
              simp only [Act.put, List.setIfInBounds_toArray, List.set_cons_zero, List.set_cons_succ]
              refine wpAnyH_take (i := 10) (v := ?_) (by rw [List.getElem?_toArray]; rfl) (by kernel_rfl) (by kernel_rfl) (by kernel_rfl) (by exact fun _ _ _ h => h) (Or.inl ⟨by rfl, ?_⟩) h0 ?_
              rotate_left
              · intro W hW
                obtain ⟨dp, dc, -, -, -, -⟩ := hW
                go_simp
                all_goals with_reducible rfl
              simp only [Act.put, List.setIfInBounds_toArray, List.set_cons_zero, List.set_cons_succ]
              refine wpAnyH_ready (rs := [11, 15]) (by kernel_rfl) (by simp) ?_
              refine AllReadyH.cons (by rw [List.getElem?_toArray]; rfl) (fun K hK => ?_) (AllReadyH.cons (by rw [List.getElem?_toArray]; rfl) (fun K hK => ?_) AllReadyH.nil)
              · go_wp2_with fail
                refine (Choose_any hP (C i) _).mono ?_
                rintro e w5 ⟨rfl, hb5⟩
                rw [EX.out]
                go_wp2_with fail
                refine hK.out _ _ (S12_on hP h0 hb5) (fun h01 => ?_)
                clear hK K
                refine wpAnyH_take (i := 12) (v := ?_) (by rw [List.getElem?_toArray]; rfl) (by kernel_rfl) (by kernel_rfl) (by kernel_rfl) (by exact fun _ _ _ h => h) (Or.inl ⟨by rfl, ?_⟩) h01 ?_
                rotate_left
                · intro W hW
                  obtain ⟨dp, dc, -, -, -, -⟩ := hW
                  go_simp
                  all_goals with_reducible rfl
                simp only [Act.put, List.setIfInBounds_toArray, List.set_cons_zero, List.set_cons_succ]
                refine wpAnyH_take (i := 13) (v := ?_) (by rw [List.getElem?_toArray]; rfl) (by kernel_rfl) (by kernel_rfl) (by kernel_rfl) (by exact fun _ _ _ h => h) (Or.inl ⟨by rfl, ?_⟩) h01 ?_
                rotate_left
                · intro W hW
                  obtain ⟨dp, dc, -, -, -, -⟩ := hW
                  go_simp
                  all_goals with_reducible rfl
                simp only [Act.put, List.setIfInBounds_toArray, List.set_cons_zero, List.set_cons_succ]
                refine wpAnyH_take (i := 14) (v := ?_) (by rw [List.getElem?_toArray]; rfl) (by kernel_rfl) (by kernel_rfl) (by kernel_rfl) (by exact fun _ _ _ h => h) (Or.inl ⟨by rfl, ?_⟩) h01 ?_
                rotate_left
                · intro W hW
                  obtain ⟨dp, dc, -, -, -, -⟩ := hW
                  go_simp
                  all_goals with_reducible rfl
                simp only [Act.put, List.setIfInBounds_toArray, List.set_cons_zero, List.set_cons_succ]
                have sw5 := h01.2.2.2.2.1.lt
                refine wpAnyH_ready (rs := [15]) (by kernel_rfl) (by simp) ?_
                refine AllReadyH.cons (by rw [List.getElem?_toArray]; rfl) (fun K hK => ?_) AllReadyH.nil
                rw [if_pos (by rfl)]
                go_wp2_with fail
                refine hK.out _ _ (S12_on hP h01 ((Below.refl _ _).alloc (Nat.le_refl _) _)) (fun h02 => ?_)
                clear hK K
                have X1 := SegAt.new w5 26 seg0
                refine wpAnyH_ready (rs := [16]) (by kernel_rfl) (by simp) ?_
                refine AllReadyH.cons (by rw [List.getElem?_toArray]; rfl) (fun K hK => ?_) AllReadyH.nil
                have th := X1.there seg0_ok (o := 0) (n := 99) (by omega)
                rw [if_pos (by rfl)]
                refine wp_store_mid _ _ _ rfl _ _ (List.toArray x.row) rfl rfl (by simpa [Seg.len sf st sm] using th) (by rw [List.size_toArray, Seg.len sf st sm]; kernel_rfl) (Seg.one x) ?_
                refine hK.out _ _ (S12_on hP h01 (below_setCells' w5.heap.size (Nat.le_refl _) _ _ ((Below.refl _ _).alloc (Nat.le_refl _) _))) (fun h03 => ?_)
                clear hK K
                simp only [Act.put]
                refine wpAnyH_take (i := 17) (v := ?_) (by rw [List.getElem?_toArray]; rfl) (by kernel_rfl) (by kernel_rfl) (by kernel_rfl) (by exact fun _ _ _ h => h) (Or.inl ⟨by rfl, ?_⟩) h03 ?_
                rotate_left
                · intro W hW
                  obtain ⟨dp, dc, -, -, -, -⟩ := hW
                  go_simp
                  all_goals with_reducible rfl
                simp only [Act.put, List.setIfInBounds_toArray, List.set_cons_zero, List.set_cons_succ]
                refine wpAnyH_done (by kernel_rfl) ?_ _
                have X2 := X1.setAll seg0_ok hx
                have hf := h03
                obtain ⟨-, -, -, -, S9, K9⟩ := hf
                go_wp2_with fail
                go_meet
                exact ⟨_, x, (C i), _, rfl, rfl, rfl, Lib.hid ⟨EX.out, K9, S9, X2, by omega⟩⟩
              · rw [if_pos (by rfl)]
                go_wp2_with fail
                refine hK.out _ _ (S12_on hP h0 ((Below.refl _ _).alloc (Nat.le_refl _) _)) (fun h01 => ?_)
                clear hK K
                have X0 := SegAt.new W.drew 26 seg0
                refine wpAnyH_ready (rs := [11]) (by kernel_rfl) (by simp) ?_
                refine AllReadyH.cons (by rw [List.getElem?_toArray]; rfl) (fun K hK => ?_) AllReadyH.nil
                go_wp2_with fail
                refine (Choose_any hP (C i) _).mono ?_
                rintro e w5 ⟨rfl, hb5⟩
                rw [EX.out]
                go_wp2_with fail
                refine hK.out _ _ (S12_on hP h01 hb5) (fun h02 => ?_)
                clear hK K
                have X1 := X0.on hb5
                refine wpAnyH_take (i := 12) (v := ?_) (by rw [List.getElem?_toArray]; rfl) (by kernel_rfl) (by kernel_rfl) (by kernel_rfl) (by exact fun _ _ _ h => h) (Or.inl ⟨by rfl, ?_⟩) h02 ?_
                rotate_left
                · intro W hW
                  obtain ⟨dp, dc, -, -, -, -⟩ := hW
                  go_simp
                  all_goals with_reducible rfl
                simp only [Act.put, List.setIfInBounds_toArray, List.set_cons_zero, List.set_cons_succ]
                refine wpAnyH_take (i := 13) (v := ?_) (by rw [List.getElem?_toArray]; rfl) (by kernel_rfl) (by kernel_rfl) (by kernel_rfl) (by exact fun _ _ _ h => h) (Or.inl ⟨by rfl, ?_⟩) h02 ?_
                rotate_left
                · intro W hW
                  obtain ⟨dp, dc, -, -, -, -⟩ := hW
                  go_simp
                  all_goals with_reducible rfl
                simp only [Act.put, List.setIfInBounds_toArray, List.set_cons_zero, List.set_cons_succ]
                refine wpAnyH_take (i := 14) (v := ?_) (by rw [List.getElem?_toArray]; rfl) (by kernel_rfl) (by kernel_rfl) (by kernel_rfl) (by exact fun _ _ _ h => h) (Or.inl ⟨by rfl, ?_⟩) h02 ?_
                rotate_left
                · intro W hW
                  obtain ⟨dp, dc, -, -, -, -⟩ := hW
                  go_simp
                  all_goals with_reducible rfl
                simp only [Act.put, List.setIfInBounds_toArray, List.set_cons_zero, List.set_cons_succ]
                refine wpAnyH_ready (rs := [16]) (by kernel_rfl) (by simp) ?_
                refine AllReadyH.cons (by rw [List.getElem?_toArray]; rfl) (fun K hK => ?_) AllReadyH.nil
                have th := X1.there seg0_ok (o := 0) (n := 99) (by omega)
                rw [if_pos (by rfl)]
                refine wp_store_mid _ _ _ rfl _ _ (List.toArray x.row) rfl rfl (by simpa [Seg.len sf st sm] using th) (by rw [List.size_toArray, Seg.len sf st sm]; kernel_rfl) (Seg.one x) ?_
                refine hK.out _ _ (S12_on hP hS12 (below_setCells' W.heap.size (Nat.le_refl _) _ _ (cthen (((Below.refl _ _).alloc (Nat.le_refl _) _).drew) hb5 (by simp)))) (fun h03 => ?_)
                clear hK K
                simp only [Act.put]
                refine wpAnyH_take (i := 17) (v := ?_) (by rw [List.getElem?_toArray]; rfl) (by kernel_rfl) (by kernel_rfl) (by kernel_rfl) (by exact fun _ _ _ h => h) (Or.inl ⟨by rfl, ?_⟩) h03 ?_
                rotate_left
                · intro W hW
                  obtain ⟨dp, dc, -, -, -, -⟩ := hW
                  go_simp
                  all_goals with_reducible rfl
                simp only [Act.put, List.setIfInBounds_toArray, List.set_cons_zero, List.set_cons_succ]
                refine wpAnyH_done (by kernel_rfl) ?_ _
                have X2 := X1.setAll seg0_ok hx
                have hf := h03
                obtain ⟨-, -, -, -, S9, K9⟩ := hf
                go_wp2_with fail
                go_meet
                exact ⟨_, x, (C i), _, rfl, rfl, rfl, Lib.hid ⟨EX.out, K9, S9, X2, by omega⟩⟩
            · have hiI : ¬ (i : Int) < (m : Int) := by omega
              have hS12 : S12 w (some ⟨tb, o, none⟩) n T q m C pb sb sb 0 (.int .i64 s.lo) P s W := ⟨P4.whole hP, S4'.lo, S4'.lt, P4, S4', K4.out⟩
              obtain ⟨x, ex, hx, -, -, -, -, -, -, -, -⟩ := HF2.out false
              have ⟨sf, st, sm⟩ : x.f.length = 32 ∧ x.t.length = 32 ∧ x.m.length = 32 := ⟨hx.f, hx.t, hx.m⟩
              have EX := Lib.hid ex
              have sW := S4'.lt
              clear ex K4 S4' P4 HF2 HI E hsok hS0
              refine wp_region_held_drew (S := S12 w (some ⟨tb, o, none⟩) n T q m C pb sb sb 0 (.int .i64 s.lo) P s) (by kernel_rfl) (S12_drew hS12) (fun h0 => ?_)
              refine wpAnyH_take (i := 0) (v := ?_) (by rw [List.getElem?_toArray]; rfl) (by kernel_rfl) (by kernel_rfl) (by kernel_rfl) (by exact fun _ _ _ h => h) (Or.inl ⟨by rfl, ?_⟩) h0 ?_
              rotate_left
              · intro W hW
                obtain ⟨dp, dc, -, -, -, -⟩ := hW
                go_simp
                all_goals with_reducible rfl
              simp only [Act.put, List.setIfInBounds_toArray, List.set_cons_zero, List.set_cons_succ]
              refine wpAnyH_take (i := 1) (v := ?_) (by rw [List.getElem?_toArray]; rfl) (by kernel_rfl) (by kernel_rfl) (by kernel_rfl) (by exact fun _ _ _ h => h) (Or.inl ⟨by rfl, ?_⟩) h0 ?_
              rotate_left
              · intro W hW
                obtain ⟨dp, dc, -, -, -, -⟩ := hW
                go_simp
                all_goals with_reducible rfl
              simp only [Act.put, List.setIfInBounds_toArray, List.set_cons_zero, List.set_cons_succ]
              refine wpAnyH_take (i := 2) (v := ?_) (by rw [List.getElem?_toArray]; rfl) (by kernel_rfl) (by kernel_rfl) (by kernel_rfl) (by exact fun _ _ _ h => h) (Or.inl ⟨by rfl, ?_⟩) h0 ?_
              rotate_left
              · intro W hW
                obtain ⟨dp, dc, -, -, -, -⟩ := hW
                go_simp
                all_goals with_reducible rfl
              simp only [Act.put, List.setIfInBounds_toArray, List.set_cons_zero, List.set_cons_succ]
              refine wpAnyH_take (i := 3) (v := ?_) (by rw [List.getElem?_toArray]; rfl) (by kernel_rfl) (by kernel_rfl) (by kernel_rfl) (by exact fun _ _ _ h => h) (Or.inl ⟨by rfl, ?_⟩) h0 ?_
              rotate_left
              · intro W hW
                obtain ⟨dp, dc, -, -, -, -⟩ := hW
                go_simp
                all_goals with_reducible rfl
              simp only [Act.put, List.setIfInBounds_toArray, List.set_cons_zero, List.set_cons_succ]
              refine wpAnyH_take (i := 4) (v := ?_) (by rw [List.getElem?_toArray]; rfl) (by kernel_rfl) (by kernel_rfl) (by kernel_rfl) (by exact fun _ _ _ h => h) (Or.inl ⟨by rfl, ?_⟩) h0 ?_
              rotate_left
              · intro W hW
                obtain ⟨dp, dc, -, -, -, -⟩ := hW
                go_simp
                all_goals with_reducible rfl
              simp only [Act.put, List.setIfInBounds_toArray, List.set_cons_zero, List.set_cons_succ]
              refine wpAnyH_take (i := 5) (v := ?_) (by rw [List.getElem?_toArray]; rfl) (by kernel_rfl) (by kernel_rfl) (by kernel_rfl) (by exact fun _ _ _ h => h) (Or.inl ⟨by rfl, ?_⟩) h0 ?_
              rotate_left
              · intro W hW
                obtain ⟨dp, dc, -, -, -, -⟩ := hW
                go_simp
                all_goals with_reducible rfl
              simp only [Act.put, List.setIfInBounds_toArray, List.set_cons_zero, List.set_cons_succ]
              refine wpAnyH_take (i := 6) (v := undef) (by rw [List.getElem?_toArray]; rfl) (by kernel_rfl) (by kernel_rfl) (by kernel_rfl) (by exact fun _ _ _ h => h) (Or.inr ⟨by rfl, rfl⟩) h0 ?_
              simp only [Act.put, List.setIfInBounds_toArray, List.set_cons_zero, List.set_cons_succ]
              refine wpAnyH_take (i := 7) (v := undef) (by rw [List.getElem?_toArray]; rfl) (by kernel_rfl) (by kernel_rfl) (by kernel_rfl) (by exact fun _ _ _ h => h) (Or.inr ⟨by rfl, rfl⟩) h0 ?_
              simp only [Act.put, List.setIfInBounds_toArray, List.set_cons_zero, List.set_cons_succ]
              refine wpAnyH_take (i := 8) (v := undef) (by rw [List.getElem?_toArray]; rfl) (by kernel_rfl) (by kernel_rfl) (by kernel_rfl) (by exact fun _ _ _ h => h) (Or.inr ⟨by rfl, rfl⟩) h0 ?_
              simp only [Act.put, List.setIfInBounds_toArray, List.set_cons_zero, List.set_cons_succ]
              refine wpAnyH_take (i := 9) (v := undef) (by rw [List.getElem?_toArray]; rfl) (by kernel_rfl) (by kernel_rfl) (by kernel_rfl) (by exact fun _ _ _ h => h) (Or.inr ⟨by rfl, rfl⟩) h0 ?_
              simp only [Act.put, List.setIfInBounds_toArray, List.set_cons_zero, List.set_cons_succ]
              refine wpAnyH_take (i := 10) (v := ?_) (by rw [List.getElem?_toArray]; rfl) (by kernel_rfl) (by kernel_rfl) (by kernel_rfl) (by exact fun _ _ _ h => h) (Or.inl ⟨by rfl, ?_⟩) h0 ?_
              rotate_left
              · intro W hW
                obtain ⟨dp, dc, -, -, -, -⟩ := hW
                go_simp
                all_goals with_reducible rfl
              simp only [Act.put, List.setIfInBounds_toArray, List.set_cons_zero, List.set_cons_succ]
              refine wpAnyH_ready (rs := [11, 15]) (by kernel_rfl) (by simp) ?_
              refine AllReadyH.cons (by rw [List.getElem?_toArray]; rfl) (fun K hK => ?_) (AllReadyH.cons (by rw [List.getElem?_toArray]; rfl) (fun K hK => ?_) AllReadyH.nil)
              · go_wp2_with fail
                refine (Choose_any hP false _).mono ?_
                rintro e w5 ⟨rfl, hb5⟩
                rw [EX.out]
                go_wp2_with fail
                refine hK.out _ _ (S12_on hP h0 hb5) (fun h01 => ?_)
                clear hK K
                refine wpAnyH_take (i := 12) (v := ?_) (by rw [List.getElem?_toArray]; rfl) (by kernel_rfl) (by kernel_rfl) (by kernel_rfl) (by exact fun _ _ _ h => h) (Or.inl ⟨by rfl, ?_⟩) h01 ?_
                rotate_left
                · intro W hW
                  obtain ⟨dp, dc, -, -, -, -⟩ := hW
                  go_simp
                  all_goals with_reducible rfl
                simp only [Act.put, List.setIfInBounds_toArray, List.set_cons_zero, List.set_cons_succ]
                refine wpAnyH_take (i := 13) (v := ?_) (by rw [List.getElem?_toArray]; rfl) (by kernel_rfl) (by kernel_rfl) (by kernel_rfl) (by exact fun _ _ _ h => h) (Or.inl ⟨by rfl, ?_⟩) h01 ?_
                rotate_left
                · intro W hW
                  obtain ⟨dp, dc, -, -, -, -⟩ := hW
                  go_simp
                  all_goals with_reducible rfl
                simp only [Act.put, List.setIfInBounds_toArray, List.set_cons_zero, List.set_cons_succ]
                refine wpAnyH_take (i := 14) (v := ?_) (by rw [List.getElem?_toArray]; rfl) (by kernel_rfl) (by kernel_rfl) (by kernel_rfl) (by exact fun _ _ _ h => h) (Or.inl ⟨by rfl, ?_⟩) h01 ?_
                rotate_left
                · intro W hW
                  obtain ⟨dp, dc, -, -, -, -⟩ := hW
                  go_simp
                  all_goals with_reducible rfl
                simp only [Act.put, List.setIfInBounds_toArray, List.set_cons_zero, List.set_cons_succ]
                have sw5 := h01.2.2.2.2.1.lt
                refine wpAnyH_ready (rs := [15]) (by kernel_rfl) (by simp) ?_
                refine AllReadyH.cons (by rw [List.getElem?_toArray]; rfl) (fun K hK => ?_) AllReadyH.nil
                rw [if_pos (by rfl)]
                go_wp2_with fail
                refine hK.out _ _ (S12_on hP h01 ((Below.refl _ _).alloc (Nat.le_refl _) _)) (fun h02 => ?_)
                clear hK K
                have X1 := SegAt.new w5 26 seg0
                refine wpAnyH_ready (rs := [16]) (by kernel_rfl) (by simp) ?_
                refine AllReadyH.cons (by rw [List.getElem?_toArray]; rfl) (fun K hK => ?_) AllReadyH.nil
                have th := X1.there seg0_ok (o := 0) (n := 99) (by omega)
                rw [if_pos (by rfl)]
                refine wp_store_mid _ _ _ rfl _ _ (List.toArray x.row) rfl rfl (by simpa [Seg.len sf st sm] using th) (by rw [List.size_toArray, Seg.len sf st sm]; kernel_rfl) (Seg.one x) ?_
                refine hK.out _ _ (S12_on hP h01 (below_setCells' w5.heap.size (Nat.le_refl _) _ _ ((Below.refl _ _).alloc (Nat.le_refl _) _))) (fun h03 => ?_)
                clear hK K
                simp only [Act.put]
                refine wpAnyH_take (i := 17) (v := ?_) (by rw [List.getElem?_toArray]; rfl) (by kernel_rfl) (by kernel_rfl) (by kernel_rfl) (by exact fun _ _ _ h => h) (Or.inl ⟨by rfl, ?_⟩) h03 ?_
                rotate_left
                · intro W hW
                  obtain ⟨dp, dc, -, -, -, -⟩ := hW
                  go_simp
                  all_goals with_reducible rfl
                simp only [Act.put, List.setIfInBounds_toArray, List.set_cons_zero, List.set_cons_succ]
                refine wpAnyH_done (by kernel_rfl) ?_ _
                have X2 := X1.setAll seg0_ok hx
                have hf := h03
                obtain ⟨-, -, -, -, S9, K9⟩ := hf
                go_wp2_with fail
                go_meet
                exact ⟨_, x, false, _, rfl, rfl, rfl, Lib.hid ⟨EX.out, K9, S9, X2, by omega⟩⟩
              · rw [if_pos (by rfl)]
                go_wp2_with fail
                refine hK.out _ _ (S12_on hP h0 ((Below.refl _ _).alloc (Nat.le_refl _) _)) (fun h01 => ?_)
                clear hK K
                have X0 := SegAt.new W.drew 26 seg0
                refine wpAnyH_ready (rs := [11]) (by kernel_rfl) (by simp) ?_
                refine AllReadyH.cons (by rw [List.getElem?_toArray]; rfl) (fun K hK => ?_) AllReadyH.nil
                go_wp2_with fail
                refine (Choose_any hP false _).mono ?_
                rintro e w5 ⟨rfl, hb5⟩
                rw [EX.out]
                go_wp2_with fail
                refine hK.out _ _ (S12_on hP h01 hb5) (fun h02 => ?_)
                clear hK K
                have X1 := X0.on hb5
                refine wpAnyH_take (i := 12) (v := ?_) (by rw [List.getElem?_toArray]; rfl) (by kernel_rfl) (by kernel_rfl) (by kernel_rfl) (by exact fun _ _ _ h => h) (Or.inl ⟨by rfl, ?_⟩) h02 ?_
                rotate_left
                · intro W hW
                  obtain ⟨dp, dc, -, -, -, -⟩ := hW
                  go_simp
                  all_goals with_reducible rfl
                simp only [Act.put, List.setIfInBounds_toArray, List.set_cons_zero, List.set_cons_succ]
                refine wpAnyH_take (i := 13) (v := ?_) (by rw [List.getElem?_toArray]; rfl) (by kernel_rfl) (by kernel_rfl) (by kernel_rfl) (by exact fun _ _ _ h => h) (Or.inl ⟨by rfl, ?_⟩) h02 ?_
                rotate_left
                · intro W hW
                  obtain ⟨dp, dc, -, -, -, -⟩ := hW
                  go_simp
                  all_goals with_reducible rfl
                simp only [Act.put, List.setIfInBounds_toArray, List.set_cons_zero, List.set_cons_succ]
                refine wpAnyH_take (i := 14) (v := ?_) (by rw [List.getElem?_toArray]; rfl) (by kernel_rfl) (by kernel_rfl) (by kernel_rfl) (by exact fun _ _ _ h => h) (Or.inl ⟨by rfl, ?_⟩) h02 ?_
                rotate_left
                · intro W hW
                  obtain ⟨dp, dc, -, -, -, -⟩ := hW
                  go_simp
                  all_goals with_reducible rfl
                simp only [Act.put, List.setIfInBounds_toArray, List.set_cons_zero, List.set_cons_succ]
                refine wpAnyH_ready (rs := [16]) (by kernel_rfl) (by simp) ?_
                refine AllReadyH.cons (by rw [List.getElem?_toArray]; rfl) (fun K hK => ?_) AllReadyH.nil
                have th := X1.there seg0_ok (o := 0) (n := 99) (by omega)
                rw [if_pos (by rfl)]
                refine wp_store_mid _ _ _ rfl _ _ (List.toArray x.row) rfl rfl (by simpa [Seg.len sf st sm] using th) (by rw [List.size_toArray, Seg.len sf st sm]; kernel_rfl) (Seg.one x) ?_
                refine hK.out _ _ (S12_on hP hS12 (below_setCells' W.heap.size (Nat.le_refl _) _ _ (cthen (((Below.refl _ _).alloc (Nat.le_refl _) _).drew) hb5 (by simp)))) (fun h03 => ?_)
                clear hK K
                simp only [Act.put]
                refine wpAnyH_take (i := 17) (v := ?_) (by rw [List.getElem?_toArray]; rfl) (by kernel_rfl) (by kernel_rfl) (by kernel_rfl) (by exact fun _ _ _ h => h) (Or.inl ⟨by rfl, ?_⟩) h03 ?_
                rotate_left
                · intro W hW
                  obtain ⟨dp, dc, -, -, -, -⟩ := hW
                  go_simp
                  all_goals with_reducible rfl
                simp only [Act.put, List.setIfInBounds_toArray, List.set_cons_zero, List.set_cons_succ]
                refine wpAnyH_done (by kernel_rfl) ?_ _
                have X2 := X1.setAll seg0_ok hx
                have hf := h03
                obtain ⟨-, -, -, -, S9, K9⟩ := hf
                go_wp2_with fail
                go_meet
                exact ⟨_, x, false, _, rfl, rfl, rfl, Lib.hid ⟨EX.out, K9, S9, X2, by omega⟩⟩
          case rest =>
            obtain ⟨qb, x, ag, wx, rfl, rfl, rfl, hM⟩ := hcut
            obtain ⟨x', ex, hx, xr, xp, xf, xt, x0, xl, xh, xd⟩ := HF2.out ag
            obtain rfl : x = x' := by have := hM.out.1.symm.trans ex; simpa using this
            have X6 := hM.out.2.X
            have S6 := hM.out.2.S
            have K6 := Lib.hid hM.out.2.K
            have xhn : x.hi ≤ n := by omega
            obtain ⟨ql, hql⟩ : ∃ ql : Nat, x.lo = ql := ⟨x.lo.toNat, by omega⟩
            obtain ⟨qh, hqh⟩ : ∃ qh : Nat, x.hi = qh := ⟨x.hi.toNat, by omega⟩
            obtain ⟨c0, c1, -, -, cf, ct, -⟩ := X6.facts hx
            rw [hql] at c0
            rw [hqh] at c1
            rw [xf, hql, Int.toNat_natCast] at cf
            rw [xt, hqh, Int.toNat_natCast] at ct
            have row : ∀ j : Nat, j < n + 1 → (T j).length = 32 ∧ rowOf wx tb (o + j * 32) 32 = hc (T j) := fun j hj => by
              obtain ⟨b', o', e', _, hl', hr'⟩ := K6.out.T j hj
              obtain ⟨e1, e2⟩ : tb = b' ∧ o = o' := by simpa using e'
              rw [← e1, ← e2] at hr'
              exact ⟨hl', hr'⟩
            obtain ⟨tl1, tr1⟩ := row ql (by omega)
            obtain ⟨tl2, tr2⟩ := row qh (by omega)
            have h13 : S13 tb o qb ql qh T wx := ⟨c0, c1, cf, ct, tr1, tr2⟩
            have g1 : ¬ ((ql : Int) < 0) := by omega
            have g2 : ¬ ((n : Int) < (qh : Int)) := by omega
            have g3 : (ql : Int) < (n : Int) + 1 := by omega
            have g4 : (qh : Int) < (n : Int) + 1 := by omega
            have XD := Lib.hid (And.intro xd (And.intro xf xt))
            clear xd xf xt x0 xl xh xhn row tr1 tr2 c0 c1 cf ct HF2 ex hM E hsok cw
            go_upto_region 13 with fail
            refine wp_region_held_drew (S := S13 tb o qb ql qh T) (by kernel_rfl) (h13) (fun h0 => ?_)
            refine wpAnyH_take (i := 0) (v := ?_) (by rw [List.getElem?_toArray]; rfl) (by kernel_rfl) (by kernel_rfl) (by kernel_rfl) (by exact fun _ _ _ h => h) (Or.inl ⟨by rfl, ?_⟩) h0 ?_
            rotate_left
            · intro W hW
              obtain ⟨d0, d1, d2, d3, d4, d5⟩ := hW
              go_simp
              all_goals with_reducible rfl
            simp only [Act.put, List.setIfInBounds_toArray, List.set_cons_zero, List.set_cons_succ]
            refine wpAnyH_take (i := 2) (v := ?_) (by rw [List.getElem?_toArray]; rfl) (by kernel_rfl) (by kernel_rfl) (by kernel_rfl) (by exact fun _ _ _ h => h) (Or.inl ⟨by rfl, ?_⟩) h0 ?_
            rotate_left
            · intro W hW
              obtain ⟨d0, d1, d2, d3, d4, d5⟩ := hW
              go_simp
              all_goals with_reducible rfl
            simp only [Act.put, List.setIfInBounds_toArray, List.set_cons_zero, List.set_cons_succ]
            refine wpAnyH_ready (rs := [1]) (by kernel_rfl) (by simp) ?_
            refine AllReadyH.cons (by rw [List.getElem?_toArray]; rfl) (fun K hK => ?_) AllReadyH.nil
            rw [if_pos (by rfl)]
            go_wp2_with fail
            refine (num_any _ _).mono ?_
            rintro e w7 ⟨rfl, rfl⟩
            go_wp2_with fail
            refine hK.out _ _ (h0) (fun h01 => ?_)
            clear hK K
            refine wpAnyH_ready (rs := [3]) (by kernel_rfl) (by simp) ?_
            refine AllReadyH.cons (by rw [List.getElem?_toArray]; rfl) (fun K hK => ?_) AllReadyH.nil
            rw [if_pos (by rfl)]
            go_wp2_with fail
            refine (num_any _ _).mono ?_
            rintro e w7 ⟨rfl, rfl⟩
            go_wp2_with fail
            refine hK.out _ _ (h01) (fun h02 => ?_)
            clear hK K
            have g5 : decide ((n : Int) < (qh : Int)) = false := by simp; omega
            have g6 : ((n : Int) < (qh : Int)) = False := by simp; omega
            have g7 : IntKind.i64.wrap 0 = 0 := by decide
            refine wpAnyH_take (i := 4) (v := ?_) (by rw [List.getElem?_toArray]; rfl) (by kernel_rfl) (by kernel_rfl) (by kernel_rfl) (by exact fun _ _ _ h => h) (Or.inl ⟨by rfl, ?_⟩) h02 ?_
            rotate_left
            · intro W hW
              obtain ⟨d0, d1, d2, d3, d4, d5⟩ := hW
              go_simp
              all_goals with_reducible rfl
            simp only [Act.put, List.setIfInBounds_toArray, List.set_cons_zero, List.set_cons_succ]
            refine wpAnyH_take (i := 5) (v := ?_) (by rw [List.getElem?_toArray]; rfl) (by kernel_rfl) (by kernel_rfl) (by kernel_rfl) (by exact fun _ _ _ h => h) (Or.inl ⟨by rfl, ?_⟩) h02 ?_
            rotate_left
            · intro W hW
              obtain ⟨d0, d1, d2, d3, d4, d5⟩ := hW
              go_simp
              all_goals with_reducible rfl
            simp only [Act.put, List.setIfInBounds_toArray, List.set_cons_zero, List.set_cons_succ]
            refine wpAnyH_take (i := 6) (v := ?_) (by rw [List.getElem?_toArray]; rfl) (by kernel_rfl) (by kernel_rfl) (by kernel_rfl) (by exact fun _ _ _ h => h) (Or.inl ⟨by rfl, ?_⟩) h02 ?_
            rotate_left
            · intro W hW
              obtain ⟨d0, d1, d2, d3, d4, d5⟩ := hW
              go_simp
              all_goals with_reducible rfl
            simp only [Act.put, List.setIfInBounds_toArray, List.set_cons_zero, List.set_cons_succ]
            refine wpAnyH_take (i := 7) (v := ?_) (by rw [List.getElem?_toArray]; rfl) (by kernel_rfl) (by kernel_rfl) (by kernel_rfl) (by exact fun _ _ _ h => h) (Or.inl ⟨by rfl, ?_⟩) h02 ?_
            rotate_left
            · intro W hW
              obtain ⟨d0, d1, d2, d3, d4, d5⟩ := hW
              go_simp
              all_goals with_reducible rfl
            simp only [Act.put, List.setIfInBounds_toArray, List.set_cons_zero, List.set_cons_succ]
            refine wpAnyH_take (i := 8) (v := ?_) (by rw [List.getElem?_toArray]; rfl) (by kernel_rfl) (by kernel_rfl) (by kernel_rfl) (by exact fun _ _ _ h => h) (Or.inl ⟨by rfl, ?_⟩) h02 ?_
            rotate_left
            · intro W hW
              obtain ⟨d0, d1, d2, d3, d4, d5⟩ := hW
              go_simp
              all_goals with_reducible rfl
            simp only [Act.put, List.setIfInBounds_toArray, List.set_cons_zero, List.set_cons_succ]
            refine wpAnyH_take (i := 9) (v := ?_) (by rw [List.getElem?_toArray]; rfl) (by kernel_rfl) (by kernel_rfl) (by kernel_rfl) (by exact fun _ _ _ h => h) (Or.inl ⟨by rfl, ?_⟩) h02 ?_
            rotate_left
            · intro W hW
              obtain ⟨d0, d1, d2, d3, d4, d5⟩ := hW
              go_simp
              all_goals with_reducible rfl
            simp only [Act.put, List.setIfInBounds_toArray, List.set_cons_zero, List.set_cons_succ]
            refine wpAnyH_take (i := 10) (v := ?_) (by rw [List.getElem?_toArray]; rfl) (by kernel_rfl) (by kernel_rfl) (by kernel_rfl) (by exact fun _ _ _ h => h) (Or.inl ⟨by rfl, ?_⟩) h02 ?_
            rotate_left
            · intro W hW
              obtain ⟨d0, d1, d2, d3, d4, d5⟩ := hW
              go_simp
              all_goals with_reducible rfl
            simp only [Act.put, List.setIfInBounds_toArray, List.set_cons_zero, List.set_cons_succ]
            refine wpAnyH_take (i := 11) (v := ?_) (by rw [List.getElem?_toArray]; rfl) (by kernel_rfl) (by kernel_rfl) (by kernel_rfl) (by exact fun _ _ _ h => h) (Or.inl ⟨by rfl, ?_⟩) h02 ?_
            rotate_left
            · intro W hW
              obtain ⟨d0, d1, d2, d3, d4, d5⟩ := hW
              go_simp
              all_goals with_reducible rfl
            simp only [Act.put, List.setIfInBounds_toArray, List.set_cons_zero, List.set_cons_succ]
            refine wpAnyH_take (i := 12) (v := ?_) (by rw [List.getElem?_toArray]; rfl) (by kernel_rfl) (by kernel_rfl) (by kernel_rfl) (by exact fun _ _ _ h => h) (Or.inl ⟨by rfl, ?_⟩) h02 ?_
            rotate_left
            · intro W hW
              obtain ⟨d0, d1, d2, d3, d4, d5⟩ := hW
              go_simp
              all_goals with_reducible rfl
            simp only [Act.put, List.setIfInBounds_toArray, List.set_cons_zero, List.set_cons_succ]
            refine wpAnyH_take (i := 13) (v := ?_) (by rw [List.getElem?_toArray]; rfl) (by kernel_rfl) (by kernel_rfl) (by kernel_rfl) (by exact fun _ _ _ h => h) (Or.inl ⟨by rfl, ?_⟩) h02 ?_
            rotate_left
            · intro W hW
              obtain ⟨d0, d1, d2, d3, d4, d5⟩ := hW
              go_simp
              all_goals with_reducible rfl
            simp only [Act.put, List.setIfInBounds_toArray, List.set_cons_zero, List.set_cons_succ]
            refine wpAnyH_take (i := 14) (v := ?_) (by rw [List.getElem?_toArray]; rfl) (by kernel_rfl) (by kernel_rfl) (by kernel_rfl) (by exact fun _ _ _ h => h) (Or.inl ⟨by rfl, ?_⟩) h02 ?_
            rotate_left
            · intro W hW
              obtain ⟨d0, d1, d2, d3, d4, d5⟩ := hW
              go_simp
              all_goals with_reducible rfl
            simp only [Act.put, List.setIfInBounds_toArray, List.set_cons_zero, List.set_cons_succ]
            refine wpAnyH_take (i := 15) (v := ?_) (by rw [List.getElem?_toArray]; rfl) (by kernel_rfl) (by kernel_rfl) (by kernel_rfl) (by exact fun _ _ _ h => h) (Or.inl ⟨by rfl, ?_⟩) h02 ?_
            rotate_left
            · intro W hW
              obtain ⟨d0, d1, d2, d3, d4, d5⟩ := hW
              go_simp
              all_goals with_reducible rfl
            simp only [Act.put, List.setIfInBounds_toArray, List.set_cons_zero, List.set_cons_succ]
            refine wpAnyH_take (i := 16) (v := ?_) (by rw [List.getElem?_toArray]; rfl) (by kernel_rfl) (by kernel_rfl) (by kernel_rfl) (by exact fun _ _ _ h => h) (Or.inl ⟨by rfl, ?_⟩) h02 ?_
            rotate_left
            · intro W hW
              obtain ⟨d0, d1, d2, d3, d4, d5⟩ := hW
              go_simp
              all_goals with_reducible rfl
            simp only [Act.put, List.setIfInBounds_toArray, List.set_cons_zero, List.set_cons_succ]
            refine wpAnyH_take (i := 17) (v := ?_) (by rw [List.getElem?_toArray]; rfl) (by kernel_rfl) (by kernel_rfl) (by kernel_rfl) (by exact fun _ _ _ h => h) (Or.inl ⟨by rfl, ?_⟩) h02 ?_
            rotate_left
            · intro W hW
              obtain ⟨d0, d1, d2, d3, d4, d5⟩ := hW
              go_simp
              all_goals with_reducible rfl
            simp only [Act.put, List.setIfInBounds_toArray, List.set_cons_zero, List.set_cons_succ]
            refine wpAnyH_take (i := 18) (v := ?_) (by rw [List.getElem?_toArray]; rfl) (by kernel_rfl) (by kernel_rfl) (by kernel_rfl) (by exact fun _ _ _ h => h) (Or.inl ⟨by rfl, ?_⟩) h02 ?_
            rotate_left
            · intro W hW
              obtain ⟨d0, d1, d2, d3, d4, d5⟩ := hW
              go_simp
              all_goals with_reducible rfl
            simp only [Act.put, List.setIfInBounds_toArray, List.set_cons_zero, List.set_cons_succ]
            refine wpAnyH_take (i := 19) (v := ?_) (by rw [List.getElem?_toArray]; rfl) (by kernel_rfl) (by kernel_rfl) (by kernel_rfl) (by exact fun _ _ _ h => h) (Or.inl ⟨by rfl, ?_⟩) h02 ?_
            rotate_left
            · intro W hW
              obtain ⟨d0, d1, d2, d3, d4, d5⟩ := hW
              go_simp
              all_goals with_reducible rfl
            simp only [Act.put, List.setIfInBounds_toArray, List.set_cons_zero, List.set_cons_succ]
            refine wpAnyH_take (i := 20) (v := ?_) (by rw [List.getElem?_toArray]; rfl) (by kernel_rfl) (by kernel_rfl) (by kernel_rfl) (by exact fun _ _ _ h => h) (Or.inl ⟨by rfl, ?_⟩) h02 ?_
            rotate_left
            · intro W hW
              obtain ⟨d0, d1, d2, d3, d4, d5⟩ := hW
              go_simp
              all_goals with_reducible rfl
            simp only [Act.put, List.setIfInBounds_toArray, List.set_cons_zero, List.set_cons_succ]
            refine wpAnyH_take (i := 21) (v := ?_) (by rw [List.getElem?_toArray]; rfl) (by kernel_rfl) (by kernel_rfl) (by kernel_rfl) (by exact fun _ _ _ h => h) (Or.inl ⟨by rfl, ?_⟩) h02 ?_
            rotate_left
            · intro W hW
              obtain ⟨d0, d1, d2, d3, d4, d5⟩ := hW
              go_simp
              all_goals with_reducible rfl
            simp only [Act.put, List.setIfInBounds_toArray, List.set_cons_zero, List.set_cons_succ]
            refine wpAnyH_take (i := 22) (v := ?_) (by rw [List.getElem?_toArray]; rfl) (by kernel_rfl) (by kernel_rfl) (by kernel_rfl) (by exact fun _ _ _ h => h) (Or.inl ⟨by rfl, ?_⟩) h02 ?_
            rotate_left
            · intro W hW
              obtain ⟨d0, d1, d2, d3, d4, d5⟩ := hW
              go_simp
              all_goals with_reducible rfl
            simp only [Act.put, List.setIfInBounds_toArray, List.set_cons_zero, List.set_cons_succ]
            refine wpAnyH_take (i := 23) (v := ?_) (by rw [List.getElem?_toArray]; rfl) (by kernel_rfl) (by kernel_rfl) (by kernel_rfl) (by exact fun _ _ _ h => h) (Or.inl ⟨by rfl, ?_⟩) h02 ?_
            rotate_left
            · intro W hW
              obtain ⟨d0, d1, d2, d3, d4, d5⟩ := hW
              go_simp
              all_goals with_reducible rfl
            simp only [Act.put, List.setIfInBounds_toArray, List.set_cons_zero, List.set_cons_succ]
            refine wpAnyH_take (i := 24) (v := ?_) (by rw [List.getElem?_toArray]; rfl) (by kernel_rfl) (by kernel_rfl) (by kernel_rfl) (by exact fun _ _ _ h => h) (Or.inl ⟨by rfl, ?_⟩) h02 ?_
            rotate_left
            · intro W hW
              obtain ⟨d0, d1, d2, d3, d4, d5⟩ := hW
              go_simp
              all_goals with_reducible rfl
            simp only [Act.put, List.setIfInBounds_toArray, List.set_cons_zero, List.set_cons_succ]
            refine wpAnyH_take (i := 25) (v := ?_) (by rw [List.getElem?_toArray]; rfl) (by kernel_rfl) (by kernel_rfl) (by kernel_rfl) (by exact fun _ _ _ h => h) (Or.inl ⟨by rfl, ?_⟩) h02 ?_
            rotate_left
            · intro W hW
              obtain ⟨d0, d1, d2, d3, d4, d5⟩ := hW
              go_simp
              all_goals with_reducible rfl
            simp only [Act.put, List.setIfInBounds_toArray, List.set_cons_zero, List.set_cons_succ]
            refine wpAnyH_take (i := 26) (v := ?_) (by rw [List.getElem?_toArray]; rfl) (by kernel_rfl) (by kernel_rfl) (by kernel_rfl) (by exact fun _ _ _ h => h) (Or.inl ⟨by rfl, ?_⟩) h02 ?_
            rotate_left
            · intro W hW
              obtain ⟨d0, d1, d2, d3, d4, d5⟩ := hW
              go_simp
              all_goals with_reducible rfl
            simp only [Act.put, List.setIfInBounds_toArray, List.set_cons_zero, List.set_cons_succ]
            refine wpAnyH_take (i := 27) (v := ?_) (by rw [List.getElem?_toArray]; rfl) (by kernel_rfl) (by kernel_rfl) (by kernel_rfl) (by exact fun _ _ _ h => h) (Or.inl ⟨by rfl, ?_⟩) h02 ?_
            rotate_left
            · intro W hW
              obtain ⟨d0, d1, d2, d3, d4, d5⟩ := hW
              go_simp
              all_goals with_reducible rfl
            simp only [Act.put, List.setIfInBounds_toArray, List.set_cons_zero, List.set_cons_succ]
            refine wpAnyH_take (i := 28) (v := ?_) (by rw [List.getElem?_toArray]; rfl) (by kernel_rfl) (by kernel_rfl) (by kernel_rfl) (by exact fun _ _ _ h => h) (Or.inl ⟨by rfl, ?_⟩) h02 ?_
            rotate_left
            · intro W hW
              obtain ⟨d0, d1, d2, d3, d4, d5⟩ := hW
              go_simp
              all_goals with_reducible rfl
            simp only [Act.put, List.setIfInBounds_toArray, List.set_cons_zero, List.set_cons_succ]
            refine wpAnyH_take (i := 29) (v := ?_) (by rw [List.getElem?_toArray]; rfl) (by kernel_rfl) (by kernel_rfl) (by kernel_rfl) (by exact fun _ _ _ h => h) (Or.inl ⟨by rfl, ?_⟩) h02 ?_
            rotate_left
            · intro W hW
              obtain ⟨d0, d1, d2, d3, d4, d5⟩ := hW
              go_simp
              all_goals with_reducible rfl
            simp only [Act.put, List.setIfInBounds_toArray, List.set_cons_zero, List.set_cons_succ]
            refine wpAnyH_take (i := 30) (v := ?_) (by rw [List.getElem?_toArray]; rfl) (by kernel_rfl) (by kernel_rfl) (by kernel_rfl) (by exact fun _ _ _ h => h) (Or.inl ⟨by rfl, ?_⟩) h02 ?_
            rotate_left
            · intro W hW
              obtain ⟨d0, d1, d2, d3, d4, d5⟩ := hW
              go_simp
              all_goals with_reducible rfl
            simp only [Act.put, List.setIfInBounds_toArray, List.set_cons_zero, List.set_cons_succ]
            refine wpAnyH_take (i := 31) (v := ?_) (by rw [List.getElem?_toArray]; rfl) (by kernel_rfl) (by kernel_rfl) (by kernel_rfl) (by exact fun _ _ _ h => h) (Or.inl ⟨by rfl, ?_⟩) h02 ?_
            rotate_left
            · intro W hW
              obtain ⟨d0, d1, d2, d3, d4, d5⟩ := hW
              go_simp
              all_goals with_reducible rfl
            simp only [Act.put, List.setIfInBounds_toArray, List.set_cons_zero, List.set_cons_succ]
            refine wpAnyH_take (i := 32) (v := ?_) (by rw [List.getElem?_toArray]; rfl) (by kernel_rfl) (by kernel_rfl) (by kernel_rfl) (by exact fun _ _ _ h => h) (Or.inl ⟨by rfl, ?_⟩) h02 ?_
            rotate_left
            · intro W hW
              obtain ⟨d0, d1, d2, d3, d4, d5⟩ := hW
              go_simp
              all_goals with_reducible rfl
            simp only [Act.put, List.setIfInBounds_toArray, List.set_cons_zero, List.set_cons_succ]
            refine wpAnyH_take (i := 33) (v := ?_) (by rw [List.getElem?_toArray]; rfl) (by kernel_rfl) (by kernel_rfl) (by kernel_rfl) (by exact fun _ _ _ h => h) (Or.inl ⟨by rfl, ?_⟩) h02 ?_
            rotate_left
            · intro W hW
              obtain ⟨d0, d1, d2, d3, d4, d5⟩ := hW
              go_simp
              all_goals with_reducible rfl
            simp only [Act.put, List.setIfInBounds_toArray, List.set_cons_zero, List.set_cons_succ]
            refine wpAnyH_take (i := 34) (v := ?_) (by rw [List.getElem?_toArray]; rfl) (by kernel_rfl) (by kernel_rfl) (by kernel_rfl) (by exact fun _ _ _ h => h) (Or.inl ⟨by rfl, ?_⟩) h02 ?_
            rotate_left
            · intro W hW
              obtain ⟨d0, d1, d2, d3, d4, d5⟩ := hW
              go_simp
              all_goals with_reducible rfl
            simp only [Act.put, List.setIfInBounds_toArray, List.set_cons_zero, List.set_cons_succ]
            refine wpAnyH_take (i := 35) (v := ?_) (by rw [List.getElem?_toArray]; rfl) (by kernel_rfl) (by kernel_rfl) (by kernel_rfl) (by exact fun _ _ _ h => h) (Or.inl ⟨by rfl, ?_⟩) h02 ?_
            rotate_left
            · intro W hW
              obtain ⟨d0, d1, d2, d3, d4, d5⟩ := hW
              go_simp
              all_goals with_reducible rfl
            simp only [Act.put, List.setIfInBounds_toArray, List.set_cons_zero, List.set_cons_succ]
            refine wpAnyH_take (i := 36) (v := ?_) (by rw [List.getElem?_toArray]; rfl) (by kernel_rfl) (by kernel_rfl) (by kernel_rfl) (by exact fun _ _ _ h => h) (Or.inl ⟨by rfl, ?_⟩) h02 ?_
            rotate_left
            · intro W hW
              obtain ⟨d0, d1, d2, d3, d4, d5⟩ := hW
              go_simp
              all_goals with_reducible rfl
            simp only [Act.put, List.setIfInBounds_toArray, List.set_cons_zero, List.set_cons_succ]
            refine wpAnyH_take (i := 37) (v := ?_) (by rw [List.getElem?_toArray]; rfl) (by kernel_rfl) (by kernel_rfl) (by kernel_rfl) (by exact fun _ _ _ h => h) (Or.inl ⟨by rfl, ?_⟩) h02 ?_
            rotate_left
            · intro W hW
              obtain ⟨d0, d1, d2, d3, d4, d5⟩ := hW
              go_simp
              all_goals with_reducible rfl
            simp only [Act.put, List.setIfInBounds_toArray, List.set_cons_zero, List.set_cons_succ]
            refine wpAnyH_take (i := 38) (v := ?_) (by rw [List.getElem?_toArray]; rfl) (by kernel_rfl) (by kernel_rfl) (by kernel_rfl) (by exact fun _ _ _ h => h) (Or.inl ⟨by rfl, ?_⟩) h02 ?_
            rotate_left
            · intro W hW
              obtain ⟨d0, d1, d2, d3, d4, d5⟩ := hW
              go_simp
              all_goals with_reducible rfl
            simp only [Act.put, List.setIfInBounds_toArray, List.set_cons_zero, List.set_cons_succ]
            refine wpAnyH_take (i := 39) (v := ?_) (by rw [List.getElem?_toArray]; rfl) (by kernel_rfl) (by kernel_rfl) (by kernel_rfl) (by exact fun _ _ _ h => h) (Or.inl ⟨by rfl, ?_⟩) h02 ?_
            rotate_left
            · intro W hW
              obtain ⟨d0, d1, d2, d3, d4, d5⟩ := hW
              go_simp
              all_goals with_reducible rfl
            simp only [Act.put, List.setIfInBounds_toArray, List.set_cons_zero, List.set_cons_succ]
            refine wpAnyH_take (i := 40) (v := ?_) (by rw [List.getElem?_toArray]; rfl) (by kernel_rfl) (by kernel_rfl) (by kernel_rfl) (by exact fun _ _ _ h => h) (Or.inl ⟨by rfl, ?_⟩) h02 ?_
            rotate_left
            · intro W hW
              obtain ⟨d0, d1, d2, d3, d4, d5⟩ := hW
              go_simp
              all_goals with_reducible rfl
            simp only [Act.put, List.setIfInBounds_toArray, List.set_cons_zero, List.set_cons_succ]
            refine wpAnyH_done (by kernel_rfl) ?_ _
            clear h0 h01 h02 h13
            have X7 := X6.drew
            have cw := X7.whole hx
            have th := S6.drew.there hs (o := 0) (n := 99) (by omega)
            have S8 := S6.drew.setAll hs hx
            have ⟨yf, yt, ym⟩ : x.f.length = 32 ∧ x.t.length = 32 ∧ x.m.length = 32 := ⟨hx.f, hx.t, hx.m⟩
            clear X6 S6 X7
            go_wp2_with fail
            go_roundw
            case rel =>
              obtain ⟨i1, dd, bb⟩ := HI.out
              obtain ⟨xd, xf, xt⟩ := XD.out
              have B8 := below_setCells' sb bb x.row 0 K6.out.drew.B
              have K0 := hS0.2.2.2
              have pz : (0 : Int) < 2 ^ i := Int.pow_pos (by omega)
              refine ⟨i + 1, x, by go_num, Lib.hid ⟨⟨K0.T.on B8, K0.C.on B8, B8⟩, bb, S8, hx, xr, xp, xf, xt, by omega, ?_, ?_⟩⟩
              · rcases Nat.lt_or_ge i 12 with c | c
                · omega
                · exfalso
                  have h12 := two_le c
                  have e12 : (2 : Int) ^ 12 = 4096 := by decide
                  have := Int.mul_le_mul_of_nonneg_right (show 1 ≤ s.hi - s.lo - 1 by omega) (Int.le_of_lt pz)
                  omega
              · have := Int.mul_le_mul_of_nonneg_right xd (Int.le_of_lt pz)
                rw [Int.pow_succ, Int.mul_comm (2 ^ i) 2, ← Int.mul_assoc, Int.mul_comm _ 2]
                omega
            case measure => simp [intH]; omega
        · have cw := S2.whole hs
          go_wp2_with fail
          refine (Last_any hs _).mono ?_
          rintro e w4 ⟨rfl, hb⟩
          have K4 := Lib.hid (K2.out.on hb)
          rw [hl]
          clear cw hb S2 K2
          go_wp2_with fail
          refine (knows_any _).mono ?_
          rintro e w5 ⟨rfl, hb⟩
          have B5 := cthen K4.out.B hb K4.out.B.size
          clear hb
          go_wp2_with fail
          go_ret
          exact ⟨rfl, B5⟩
end Go.Proofs.Ytcogoncekbiacaa
