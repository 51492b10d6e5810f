/-
  The walk of ClaimMoves.
-/
import Derived.Test.YtcogoncekbiacaaRefMoves
import Derived.Test.YtcogoncekbiacaaOpenTrace
import Derived.Laws.AppendOwn
import Derived.Laws.AppendOwnNone
namespace Go.Proofs.Ytcogoncekbiacaa
open Go.RowKit

theorem Try.info_hash : ∃ i, Try.prog.info? 23 = some i ∧ i.zero = some (.agg (hc zero32).toArray) ∧ i.size = 32 ∧ i.bytes = 32 := by
  have h : (Try.prog.info? 23).map (fun i => (i.zero, i.size, i.bytes)) = some (some (.agg (hc zero32).toArray), 32, 32) := by kernel_rfl
  cases hq : Try.prog.info? 23 with
  | none => simp [hq] at h
  | some i =>
    simp [hq] at h
    exact ⟨i, rfl, h.1, h.2.1, h.2.2⟩

/-- All the cells of n hashes. -/
def flat (T : Nat → List Int) (n : Nat) : List Value := (List.range n).flatMap fun i => hc (T i)

theorem flat_at {T : Nat → List Int} : ∀ {n : Nat}, (∀ i, i < n → (T i).length = 32) → (flat T n).length = n * 32 ∧ ∀ i, i < n → ∀ j, j < 32 → (flat T n)[i * 32 + j]? = (hc (T i))[j]?
  | 0, _ => ⟨rfl, fun i hi => by omega⟩
  | n + 1, h => by
    obtain ⟨l, k⟩ := flat_at (n := n) fun i hi => h i (by omega)
    have e : flat T (n + 1) = flat T n ++ hc (T n) := by simp [flat, List.range_succ]
    have hn : (hc (T n)).length = 32 := by rw [hc_len, h n (by omega)]
    refine ⟨by rw [e, List.length_append, l, hn]; omega, fun i hi j hj => ?_⟩
    rw [e]
    by_cases hlt : i < n
    · rw [List.getElem?_append_left (by omega)]; exact k i hlt j hj
    · obtain rfl : i = n := by omega
      rw [List.getElem?_append_right (by omega), l, show i * 32 + j - i * 32 = j by omega]

set_option maxHeartbeats 4000000 in
theorem Moves_walk {s : Seg} (hs : s.ok) {ad : Addr} {n cap : Nat} {T : Nat → List Int} (hn : n * 32 ≤ 140737488351232) (w : World) (hT : TrP w (some ad) n T) :
    Calls Try.prog 4 #[.slice (some ad) n cap, .agg s.row.toArray] w fun e w' => e = .returned (.bool true) ∧ Below w.heap.size w w' := by
  obtain ⟨ih, hi, hz, hsz, hby⟩ := Try.info_hash
  have hT2 := (hT.alloc (.cells s.row.toArray 25)).alloc (.cells #[] 23)
  obtain ⟨fl, fa⟩ := flat_at (T := T) (n := n) fun i hi => (hT i hi).elim fun _ h => h.elim fun _ h => h.2.2.1
  have hnews : ∀ j u, (flat T n)[j]? = some u → ((w.alloc (.cells s.row.toArray 25)).alloc (.cells #[] 23)).cell? (ad.add j) = some u := fun j u hj => by
    have hl := (List.getElem?_eq_some_iff.1 hj).1
    have hjn : j / 32 < n := by omega
    have ej : j = j / 32 * 32 + j % 32 := by omega
    rw [ej, fa (j / 32) hjn (j % 32) (by omega)] at hj
    obtain ⟨b', o', e', _, _, hr⟩ := hT2 (j / 32) hjn
    have e2 : ad = ⟨b', o', none⟩ := by simpa using e'
    rw [e2]
    have := range_rowOf ((w.alloc (.cells s.row.toArray 25)).alloc (.cells #[] 23)) b' (o' + j / 32 * 32) 32 (j % 32) u (by rw [hr]; exact hj)
    rw [Addr.add_mid, show o' + j = o' + j / 32 * 32 + j % 32 by omega]
    exact this
  have hone : ∀ u ∈ flat T n, u.oneCell' = true := fun u hu => by
    simp only [flat, List.mem_flatMap] at hu
    obtain ⟨i, _, hu⟩ := hu
    simp only [hc, List.mem_map] at hu
    obtain ⟨x, _, rfl⟩ := hu
    rfl
  have hown : World.ownsRow ((w.alloc (.cells s.row.toArray 25)).alloc (.cells #[] 23)) w.heap.size 23 32 (.slice (some ⟨w.heap.size + 1, 0, none⟩) 0 0) 0 [] := by
    refine ⟨rfl, Or.inr ⟨w.heap.size + 1, 0, #[], rfl, by omega, ?_, Nat.le_refl _, by unfold maxLen; omega, rfl, rfl⟩⟩
    have := heap_alloc_last (w.alloc (.cells s.row.toArray 25)) (.cells #[] 23)
    simpa using this
  go_enter Try.func4, Try.ntmps4
  go_wp2_with (refine wpList_append_own _ rfl _ _ 46 rfl w.heap.size 23 ih (.agg (hc zero32).toArray) 32 32 Try.underlying46 hi hz hsz hby (by simp [Value.cells, hc_len, zero32_len]) (by omega) (.slice (some ⟨w.heap.size + 1, 0, none⟩) 0 0) 0 [] rfl hown ad n cap (flat T n) rfl fl hnews hone (by unfold maxLen; omega) (by omega) (by simp; omega) ?_)
  intro v' w1 hO hg hne
  obtain ⟨_, h | ⟨g, cap', cur, rfl, hbg, hcur, hle, hcm, hcs, htk⟩⟩ := hO
  · exact absurd h.1 hne
  have S0 := (SegAt.new w 25 s).alloc (.cells #[] 23)
  have BB : Below (w.heap.size + 1) ((w.alloc (.cells s.row.toArray 25)).alloc (.cells #[] 23)) w1 := Below.grown (Below.refl _ _) hg (by simp) (by rintro k hk; simp [Value.ownBlock] at hk; omega)
  have B1 : Below w.heap.size w w1 := Below.trans (by repeat (first | with_reducible exact Below.refl _ _ | with_reducible refine Below.alloc ?_ (by simp; try omega) _)) (BB.mono (by omega))
  have S1 : SegAt w1 w.heap.size 25 s := by
    unfold SegAt
    rw [BB.block _ (by omega)]
    exact S0
  have hl32 : ∀ i, i < n → (T i).length = 32 := fun i hi => (hT i hi).elim fun _ h => h.elim fun _ h => h.2.2.1
  have KC : TrP w1 (some ⟨g, 0, none⟩) n T := fun i hi => by
    have hr := rowOf_cells (w := w1) (b := g) (o := 0 + i * 32) (n := 32) (cs := hc (T i)) (by rw [hc_len, hl32 i hi]) (by omega) (fun j v hj => by
      have hj' := (List.getElem?_eq_some_iff.1 hj).1
      rw [hc_len, hl32 i hi] at hj'
      rw [Joins.cell_of_block hcur, ← Array.getElem?_toList, ← hj, ← fa i hi j hj', ← htk, List.getElem?_take, if_pos (by omega), Nat.zero_add])
    exact ⟨g, 0, rfl, hr.2, hl32 i hi, hr.1⟩
  have KT := hT.on B1
  have cw := S1.whole hs
  have ⟨hf, ht, hm⟩ : s.f.length = 32 ∧ s.t.length = 32 ∧ s.m.length = 32 := ⟨hs.f, hs.t, hs.m⟩
  have hH : (s.honest n T).1.length = 32 := by
    unfold Seg.honest
    cases hx : (!s.right || s.p || s.last || decide ((n : Int) ≤ s.middle))
    · have h0 : 0 ≤ s.middle ∧ s.middle < n := by
        simp only [Bool.or_eq_false_iff, Bool.not_eq_false', decide_eq_false_iff_not] at hx
        have := Seg.middle_lo hx.1.1.1
        omega
      exact hl32 _ (by omega)
    · exact zero32_len
  clear hne hown hnews hone fl fa hcur hle hcm hcs htk BB S0 hT2 hg hbg hT hi hz hsz hby
  go_wp2_with fail
  refine (Own_any hs _).mono ?_
  rintro e w2 ⟨rfl, hb⟩
  have S2 := S1.on hb
  have KC2 := KC.on hb
  have KT2 := KT.on hb
  have B2 := cthen B1 hb B1.size
  have zl := zero32_len
  clear S1 KC KT B1 cw hb
  go_wp2_with fail
  refine (Honest_any hs _ KC2).mono ?_
  rintro e w3 ⟨rfl, hb⟩
  generalize hHH : s.honest n T = hh at hH ⊢
  have HH := Lib.hid hHH
  clear hHH
  have S3 := (S2.on hb).alloc (.cells (hc hh.1).toArray 23)
  have KC3 := (KC2.on hb).alloc (.cells (hc hh.1).toArray 23)
  have KT3 := (KT2.on hb).alloc (.cells (hc hh.1).toArray 23)
  have H3 := HashAt.new w3 hh.1
  have B3 := (cthen B2 hb B2.size).alloc (by have := B2.size; have := hb.size; omega) (.cells (hc hh.1).toArray 23)
  have cw := S3.whole hs
  clear S2 KC2 KT2 B2 hb
  go_wp2_with fail
  refine (refHonest_any hs _ KT3).mono ?_
  rintro e w4 ⟨rfl, hb⟩
  rw [HH.out]
  have S4 := (S3.on hb).alloc (.cells (hc hh.1).toArray 23)
  have KC4 := (KC3.on hb).alloc (.cells (hc hh.1).toArray 23)
  have KT4 := (KT3.on hb).alloc (.cells (hc hh.1).toArray 23)
  have H4 := (H3.on hb).alloc (.cells (hc hh.1).toArray 23)
  have G4 := HashAt.new w4 hh.1
  have B4 := (cthen B3 hb B3.size).alloc (by have := B3.size; have := hb.size; omega) (.cells (hc hh.1).toArray 23)
  have cw := S4.whole hs
  clear S3 KC3 KT3 H3 B3 hb
  go_wp2_with fail
  refine (Own_any hs _).mono ?_
  rintro e w5 ⟨rfl, hb⟩
  have S5 := S4.on hb
  have KC5 := KC4.on hb
  have KT5 := KT4.on hb
  have H5 := H4.on hb
  have G5 := G4.on hb
  have B5 := cthen B4 hb B4.size
  clear S4 KC4 KT4 H4 G4 B4 hb cw
  go_wp2_with fail
  refine (Judge_any hs _ KC5).mono ?_
  rintro e w6 ⟨rfl, hb⟩
  have S6 := S5.on hb
  have KT6 := KT5.on hb
  have H6 := H5.on hb
  have G6 := G5.on hb
  have B6 := cthen B5 hb B5.size
  have cw := S6.whole hs
  clear S5 KC5 KT5 H5 G5 B5 hb
  go_wp2_with fail
  refine (refJudge_any hs _ KT6).mono ?_
  rintro e w7 ⟨rfl, hb⟩
  have ch := (H6.on hb).row hH
  have cg := (G6.on hb).row hH
  have B7 := cthen B6 hb B6.size
  generalize s.judge n T = jj
  clear S6 KT6 H6 G6 B6 hb cw
  go_wp2_with fail
  refine (knows_any _).mono ?_
  rintro e w8 ⟨rfl, hb⟩
  have B8 := cthen B7 hb B7.size
  clear hb ch cg B7
  go_wp2_with fail
  go_ret
  exact ⟨rfl, B8⟩
end Go.Proofs.Ytcogoncekbiacaa
