/-
  Rows of one's own, of whatever element; basculelaw02.Parts.
-/
import Derived.Test.YtimcjnocmbbahaaDoorFrameW
namespace Go.Proofs.YtimcjnocmbbahaaDoor
set_option maxRecDepth 100000
open Go.RowKit

section
variable {w w' : World} {e : TypeId} {size : Nat} {v : Value} {n : Nat} {xs : List Value}
theorem own_lt (h : w.ownsRow 0 e size v n xs) {k : Nat} (hk : v.ownBlock = some k) : k < w.heap.size := by
  rcases h.2 with ⟨rfl, _⟩ | ⟨g, cap, cur, rfl, _, hg, _⟩
  · simp [Value.ownBlock] at hk
  · obtain rfl : g = k := by simpa [Value.ownBlock] using hk
    exact (Array.getElem?_eq_some_iff.1 hg).1
theorem own_ne (h : w.ownsRow 0 e size v n xs) {p : Nat} {cs : Array Value} {t : TypeId} {fr : Nat × Nat} (hp : w.heap[p]? = some (.cells cs t fr)) (ht : t ≠ e) : v.ownBlock ≠ some p := by
  rcases h.2 with ⟨rfl, _⟩ | ⟨g, cap, cur, rfl, _, hg, _⟩
  · simp [Value.ownBlock]
  · intro hk
    obtain rfl : g = p := by simpa [Value.ownBlock] using hk
    rw [hp] at hg
    simp at hg
    exact ht hg.2.1
theorem own_keep (h : w.ownsRow 0 e size v n xs) (hb : ∀ k, v.ownBlock = some k → w'.heap[k]? = w.heap[k]?) : w'.ownsRow 0 e size v n xs := by
  refine ⟨h.1, ?_⟩
  rcases h.2 with hn | ⟨g, cap, cur, rfl, hq, hg, r⟩
  · exact .inl hn
  · exact .inr ⟨g, cap, cur, rfl, hq, by rw [hb g rfl]; exact hg, r⟩
theorem own_chg2 {S : List Nat} (h : w.ownsRow 0 e size v n xs) (hc : Chg w w' S) (hS : ∀ k, v.ownBlock = some k → k ∉ S) : w'.ownsRow 0 e size v n xs :=
  own_keep h fun k hk => hc.block k (own_lt h hk) (hS k hk)
theorem own_on (h : w.ownsRow 0 e size v n xs) (hb : Below w.heap.size w w') : w'.ownsRow 0 e size v n xs := own_chg2 h (Chg.below hb (Nat.le_refl _) []) (by simp)
theorem own_two {e' : TypeId} {size' : Nat} {v' : Value} {n' : Nat} {xs' : List Value} (h : w.ownsRow 0 e size v n xs) (h' : w.ownsRow 0 e' size' v' n' xs') (ht : e ≠ e') {k : Nat} (hk : v.ownBlock = some k) : v'.ownBlock ≠ some k := by
  rcases h.2 with ⟨rfl, _⟩ | ⟨g, cap, cur, rfl, _, hg, _⟩
  · simp [Value.ownBlock] at hk
  · obtain rfl : g = k := by simpa [Value.ownBlock] using hk
    exact own_ne h' hg ht
theorem own_slice (h : w.ownsRow 0 e size v n xs) : ∃ q c, v = .slice q n c := by
  rcases h.2 with ⟨rfl, rfl⟩ | ⟨g, cap, cur, rfl, _⟩
  · exact ⟨_, _, rfl⟩
  · exact ⟨_, _, rfl⟩
theorem own_empty (w : World) (e : TypeId) (size : Nat) : (w.alloc (.cells #[] e)).ownsRow 0 e size (.slice (some ⟨w.heap.size, 0, none⟩) 0 0) 0 [] :=
  ⟨by simp, .inr ⟨w.heap.size, 0, #[], rfl, Nat.zero_le _, heap_alloc_new w _, Nat.le_refl _, Nat.zero_le _, by simp, by simp⟩⟩
end

theorem Tryd.infoU8s : (Tryd.prog.info? 22).map (fun i => (i.zero, i.size, i.bytes)) = some (some (.slice none 0 0), 1, 24) := by kernel_rfl

/-- k slices were copied. -/
structure PtS (w wr : World) (L : List (List Int)) (k : Nat) (v : Value) (vs : List Value) : Prop where
  own : wr.ownsRow 0 22 1 v k vs
  len : vs.length = k
  each : ∀ i u, vs[i]? = some u → wr.ownsRow 0 5 1 u (L.getD i []).length (bc (L.getD i [])) ∧ ∀ g, u.ownBlock = some g → w.heap.size ≤ g
  fresh : ∀ g, v.ownBlock = some g → w.heap.size ≤ g
  below : Below w.heap.size w wr

set_option maxHeartbeats 4000000 in
theorem Parts_any {w : World} {a : Value} {L : List (List Int)} (hL : RdL w a L []) (hn : L.length * 24 ≤ 140737488355328) (hx : ∀ i, (L.getD i []).length ≤ 140737488355328) :
    Calls Tryd.prog 17 #[a] w fun e w' => ∃ v vs, e = .returned v ∧ PtS w w' L L.length v vs := by
  obtain ⟨i0, hi, hz0, hz1, hz2⟩ := info_parts Tryd.infoU8
  obtain ⟨j0, hj, ez0, ez1, ez2⟩ := info_parts Tryd.infoU8s
  have H0 : Hid (PtS w w L 0 (.slice none 0 0) []) := ⟨World.ownsRow_nil w 0 _ 1, rfl, by simp, by simp [Value.ownBlock], Below.refl _ _⟩
  obtain ⟨q, c, rfl⟩ : ∃ q c, a = .slice q L.length c := by obtain ⟨q, c, e, _⟩ := hL; exact ⟨q, c, e⟩
  have HL := Lib.hid hL
  clear hL
  replace hi := Lib.hid hi
  replace hz0 := Lib.hid hz0
  replace hz1 := Lib.hid hz1
  replace hz2 := Lib.hid hz2
  replace hj := Lib.hid hj
  replace ez0 := Lib.hid ez0
  replace ez1 := Lib.hid ez1
  replace ez2 := Lib.hid ez2
  go_enter Tryd.func17, Tryd.ntmps17
  go_wp2_with fail
  go_loopw [3, 4] (fun ov iv wr => ∃ k : Nat, iv = .int .i64 k ∧ k ≤ L.length ∧ ∃ qo co, ov = .slice qo k co ∧ ∃ vs, Hid (PtS w wr L k ov vs)) (fun _ iv _ => L.length - (intOf iv).toNat)
  case atStart => exact ⟨0, rfl, by omega, _, _, rfl, [], H0⟩
  case round =>
    clear H0
    obtain ⟨k, rfl, hk, qo, co, rfl, vs, hS⟩ := hrel
    by_cases hlt : k < L.length
    · obtain ⟨b, off, r, m, kc, hm0, rfl, -, cb, hm, hrd, -⟩ := (HL.out.chg (Chg.below hS.out.below (Nat.le_refl _) [])).at hlt
      have HR := Lib.hid hrd
      have hxk := hx k
      have hbl := lt_of_cell cb
      subst hm
      clear hrd
      generalize hxs : L.getD k [] = xs at cb HR hxk ⊢
      go_wp2_with (at_builtin; refine wpList_append_row rfl _ _ rfl Tryd.underlying22 hi.out hz0.out hz1.out hz2.out rfl (own_empty wr 5 1) ((HR.out.alloc _).src (P := Tryd.prog) Tryd.underlying22) ?b1 ?b2 ?_)
      case b1 => unfold maxLen; omega
      intro q2 k2 w2 own2 grow2 fr2
      have H9 := Lib.hid own2
      have G2 : Below wr.heap.size wr w2 := ((Below.refl _ _).alloc (Nat.le_refl _) (.cells #[] 5)).grown grow2 (by simp) (by intro g hg; simp [Value.ownBlock] at hg; omega)
      have F2 : Hid (∀ g, (Value.slice q2 xs.length k2).ownBlock = some g → wr.heap.size ≤ g) := fun g hg => by
        rcases fr2 with e | e
        · rw [e] at hg; simp [Value.ownBlock] at hg; omega
        · rw [e] at hg; simp at hg; omega
      have G2' := Lib.hid G2
      have O2 := Lib.hid (own_on hS.out.own G2)
      clear own2 grow2 fr2 G2
      go_wp2_with (at_builtin; refine wpList_append_row rfl _ _ rfl Tryd.underlying26 hj.out ez0.out ez1.out ez2.out rfl (own_on O2.out ((Below.refl _ _).alloc (Nat.le_refl _) (.cells #[.slice q2 xs.length k2] 22))) (news := [.slice q2 xs.length k2]) (m := 1) ?rd ?b3 ?b4 ?_)
      case rd =>
        refine Src.ofSlice _ Tryd.underlying26 _ _ _ _ rfl (fun j u hu => ?_) (fun u hu => ?_)
        · rw [addr_add, Nat.zero_add, Joins.cell_of_block (heap_alloc_new w2 _)]
          simpa using hu
        · obtain rfl := List.mem_singleton.1 hu
          rfl
      case b3 => unfold maxLen; omega
      (try case b4 => omega)
      intro q5 k5 w5 own5 grow5 fr5
      have HN : Hid (PtS w w5 L (k + 1) (.slice q5 (k + 1) k5) (vs ++ [.slice q2 xs.length k2])) := by
        have hb4 : Below w2.heap.size w2 (w2.alloc (.cells #[.slice q2 xs.length k2] 22)) := (Below.refl _ _).alloc (Nat.le_refl _) _
        have G4 : Below wr.heap.size wr (w2.alloc (.cells #[.slice q2 xs.length k2] 22)) := G2'.out.trans (hb4.mono G2'.out.size)
        have hc : Chg (w2.alloc (.cells #[.slice q2 xs.length k2] 22)) w5 (Value.slice qo k co).ownBlock.toList := Chg.grown grow5 (fun g hg => by simp [hg])
        have ho := own_on O2.out hb4
        have keep : ∀ {u : Value} {m : Nat} {ys : List Value}, (w2.alloc (.cells #[.slice q2 xs.length k2] 22)).ownsRow 0 5 1 u m ys → w5.ownsRow 0 5 1 u m ys := fun h =>
          own_chg2 h hc (fun g hg hm => own_two h ho (by decide) hg (by simpa using hm))
        have hw := hS.out.below.size
        have hw2 := G2'.out.size
        refine ⟨own5, by rw [List.length_append, hS.out.len]; rfl, ?_, ?_, ?_⟩
        · intro i u hu
          by_cases hik : i < k
          · rw [List.getElem?_append_left (by rw [hS.out.len]; exact hik)] at hu
            obtain ⟨e1, e2⟩ := hS.out.each i u hu
            exact ⟨keep (own_on e1 G4), e2⟩
          · rw [List.getElem?_append_right (by rw [hS.out.len]; omega), hS.out.len] at hu
            have hi0 : i = k := by
              have := (List.getElem?_eq_some_iff.1 hu).1
              simp at this
              omega
            subst hi0
            obtain rfl : (Value.slice q2 xs.length k2) = u := by simpa using hu
            rw [hxs]
            exact ⟨keep (own_on H9.out hb4), fun g hg => Nat.le_trans hw (F2.out g hg)⟩
        · intro g hg
          rcases fr5 with e | e
          · exact hS.out.fresh g (by rw [← e]; exact hg)
          · rw [e] at hg; simp at hg; omega
        · refine (hS.out.below.trans (G4.mono hw)).trans (hc.toBelow ?_ ?_)
          · have := G4.size; omega
          · intro g hg; exact hS.out.fresh g (by simpa using hg)
      clear own5 grow5 fr5 H9 F2 O2 G2' hS HR cb
      go_wp2_with fail
      go_roundw
      case rel => exact ⟨k + 1, by go_num, by omega, _, _, rfl, _, HN⟩
      case measure => simp [intOf]; omega
    · obtain rfl : k = L.length := by omega
      go_wp2_with fail
      go_ret
      exact ⟨_, vs, rfl, hS.out⟩
end Go.Proofs.YtimcjnocmbbahaaDoor
