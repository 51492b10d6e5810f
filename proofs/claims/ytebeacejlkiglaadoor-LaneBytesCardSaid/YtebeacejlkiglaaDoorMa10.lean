/-
  The level above, of the program.; The level above, of the document.; The lowest level, of the document.; The law's Same, of two proofs that are the same; the law's num.; The root of a list, of the program and of the document.; The root of a list, of the document.
-/
import Derived.Test.YtebeacejlkiglaaDoorMa1
import Derived.Test.YtebeacejlkiglaaDoorMa9
namespace Go.Proofs.YtebeacejlkiglaaDoor
set_option maxRecDepth 100000
open Go.RowKit

set_option maxHeartbeats 8000000 in
theorem next_any {w : World} {q : Option Addr} {k : Nat} {Ss : List (List Int)} (hs : RdHs w q Ss) (ok : HsOk Ss) (hn : Ss.length ≤ 65536) (hpos : 0 < Ss.length) (hT : Tbl w) :
    Calls Tryd.prog 30 #[.slice q Ss.length k] w fun e w' => ∃ q' k', e = .returned (.slice q' (upL Ss).length k') ∧ RdHs w' q' (upL Ss) ∧ Below w.heap.size w w' ∧ ∀ a, q' = some a → w.heap.size ≤ a.block := by
  obtain ⟨i0, hi, hz0, hz1, hz2⟩ := info_parts Tryd.infoHs
  replace hi := Lib.hid hi
  replace hz0 := Lib.hid hz0
  replace hz1 := Lib.hid hz1
  replace hz2 := Lib.hid hz2
  have HL : Hid (∀ i, i < Ss.length → (Ss.getD i []).length = 32) := fun i hi => (ok.get i hi).1
  have HOK := Lib.hid ok
  have HT := Lib.hid hT
  clear hT
  obtain ⟨b, off, rfl, hx0⟩ := hs.resolve_left (fun e => by rw [e] at hpos; simp at hpos)
  have NB : Hid (Ss ≠ [] → ∀ k0 off0, (some ⟨b, off, none⟩ : Option Addr) = some ⟨k0, off0, none⟩ → k0 < w.heap.size) := fun _ k0 off0 e => by
    simp only [Option.some.injEq, Addr.mk.injEq] at e
    obtain ⟨rfl, rfl, -⟩ := e
    have h1 := hx0 0 hpos
    have h2 : (rowOf w b (off + 0 * 32) 32).length = 32 := by rw [h1, hc_len, (HOK.out.get 0 hpos).1]
    unfold rowOf at h2
    cases hh : w.heap[b]? with
    | none => rw [hh] at h2; simp at h2
    | some x => exact (Array.getElem?_eq_some_iff.1 hh).1
  have HS := Lib.hid hs
  clear hs ok hx0
  go_enter Tryd.func30, Tryd.ntmps30
  have hN : (((Ss.length : Int) + 1) / 2 : Int) = (((Ss.length + 1) / 2 : Nat) : Int) := by omega
  go_wp2_with (refine wpList_make_own _ rfl _ _ _ rfl 0 _ _ _ _ Tryd.underlying26 hi.out hz0.out hz1.out _ _ _ ((Ss.length + 1) / 2) rfl rfl (by first | exact hN | omega) ?b1 ?b2 ?b3 ?_)
  case b1 => rw [hz2.out]; omega
  case b2 => unfold maxLen; omega
  case b3 => omega
  clear hN
  intro w1 own1 grow1
  have g1 : Below w.heap.size w w1 := (Below.refl _ _).grown grow1 (Nat.le_refl _) (by intro k hk; simp at hk)
  have S1 : Hid (NxS w w1 (some ⟨b, off, none⟩) Ss (.slice (some ⟨w.heap.size, 0, none⟩) 0 ((Ss.length + 1) / 2)) (upK Ss 0)) := Lib.hid ⟨⟨own1, HsOk.nil, fun g hg => by simp [Value.ownBlock] at hg; omega, g1⟩, HS.out.on HL.out g1⟩
  clear own1 grow1 g1
  go_wp2_with fail
  go_loopw [3, 4] (fun ov iv wr => ∃ i : Nat, iv = .int .i64 (2 * (i : Int)) ∧ 2 * i ≤ Ss.length ∧ (∃ qo co, ov = .slice qo i co) ∧ Hid (NxS w wr (some ⟨b, off, none⟩) Ss ov (upK Ss i))) (fun _ iv _ => Ss.length + 2 - (intOf iv).toNat)
  case atStart => exact ⟨0, rfl, by omega, ⟨_, _, rfl⟩, S1⟩
  case round =>
    clear S1 HS
    obtain ⟨i, rfl, hil, ⟨qo, co, rfl⟩, hS⟩ := hrel
    by_cases hlt : 2 * i + 1 < Ss.length
    · have hltI : 2 * (i : Int) + 1 < (Ss.length : Int) := by omega
      obtain ⟨b', off', e', hx'⟩ := hS.out.rd.resolve_left (fun e => by rw [e] at hlt; simp at hlt)
      simp only [Option.some.injEq, Addr.mk.injEq] at e'
      obtain ⟨rfl, rfl, -⟩ := e'
      have r1 := hx' (2 * i) (by omega)
      have r2 := hx' (2 * i + 1) (by omega)
      obtain ⟨lA, bA⟩ := HOK.out.get (2 * i) (by omega)
      obtain ⟨lB, bB⟩ := HOK.out.get (2 * i + 1) (by omega)
      clear hx'
      obtain ⟨A, hA⟩ : ∃ A, Ss.getD (2 * i) [] = A := ⟨_, rfl⟩
      obtain ⟨B, hB⟩ : ∃ B, Ss.getD (2 * i + 1) [] = B := ⟨_, rfl⟩
      rw [hA] at r1 lA bA
      rw [hB] at r2 lB bB
      have HAe := Lib.hid hA
      have HBe := Lib.hid hB
      have g0 : (0 : Int) ≤ 2 * (i : Int) := by omega
      have g1 : 2 * (i : Int) < (Ss.length : Int) := by omega
      have t0 : (2 * (i : Int)).toNat = 2 * i := by omega
      have g2 : (0 : Int) ≤ 2 * (i : Int) + 1 := by omega
      have t1 : (2 * (i : Int) + 1).toNat = 2 * i + 1 := by omega
      have kw : IntKind.i64.wrap (2 * (i : Int) + 1) = 2 * (i : Int) + 1 := IntWalk.i64_in _ (by omega)
      have lcA := hc_len A
      have lcB := hc_len B
      clear hA hB
      go_wp2_with fail
      refine wp_region_held_drew (S := fun W => rowOf W b (off + 2 * i * 32) 32 = hc A ∧ rowOf W b (off + (2 * i + 1) * 32) 32 = hc B) (by kernel_rfl) (⟨r1, r2⟩) (fun h0 => ?_)
      refine wpAnyH_take (i := 0) (v := ?_) (by rw [List.getElem?_toArray]; rfl) (by kernel_rfl) (by kernel_rfl) (by kernel_rfl) (by exact fun _ _ _ h => h) (Or.inl ⟨by rfl, ?_⟩) h0 ?_
      rotate_left
      · intro W hW
        go_simp
        all_goals with_reducible rfl
      try simp only [Act.put, List.setIfInBounds_toArray, List.set_cons_zero, List.set_cons_succ]
      refine wpAnyH_take (i := 1) (v := ?_) (by rw [List.getElem?_toArray]; rfl) (by kernel_rfl) (by kernel_rfl) (by kernel_rfl) (by exact fun _ _ _ h => h) (Or.inl ⟨by rfl, ?_⟩) h0 ?_
      rotate_left
      · intro W hW
        go_simp
        all_goals with_reducible rfl
      try simp only [Act.put, List.setIfInBounds_toArray, List.set_cons_zero, List.set_cons_succ]
      refine wpAnyH_take (i := 2) (v := ?_) (by rw [List.getElem?_toArray]; rfl) (by kernel_rfl) (by kernel_rfl) (by kernel_rfl) (by exact fun _ _ _ h => h) (Or.inl ⟨by rfl, ?_⟩) h0 ?_
      rotate_left
      · intro W hW
        go_simp
        all_goals with_reducible rfl
      try simp only [Act.put, List.setIfInBounds_toArray, List.set_cons_zero, List.set_cons_succ]
      refine wpAnyH_take (i := 3) (v := ?_) (by rw [List.getElem?_toArray]; rfl) (by kernel_rfl) (by kernel_rfl) (by kernel_rfl) (by exact fun _ _ _ h => h) (Or.inl ⟨by rfl, ?_⟩) h0 ?_
      rotate_left
      · intro W hW
        go_simp
        all_goals with_reducible rfl
      try simp only [Act.put, List.setIfInBounds_toArray, List.set_cons_zero, List.set_cons_succ]
      refine wpAnyH_take (i := 4) (v := ?_) (by rw [List.getElem?_toArray]; rfl) (by kernel_rfl) (by kernel_rfl) (by kernel_rfl) (by exact fun _ _ _ h => h) (Or.inl ⟨by rfl, ?_⟩) h0 ?_
      rotate_left
      · intro W hW
        have cc := hW.1
        go_simp
        all_goals with_reducible rfl
      try simp only [Act.put, List.setIfInBounds_toArray, List.set_cons_zero, List.set_cons_succ]
      refine wpAnyH_take (i := 5) (v := ?_) (by rw [List.getElem?_toArray]; rfl) (by kernel_rfl) (by kernel_rfl) (by kernel_rfl) (by exact fun _ _ _ h => h) (Or.inl ⟨by rfl, ?_⟩) h0 ?_
      rotate_left
      · intro W hW
        go_simp
        all_goals with_reducible rfl
      try simp only [Act.put, List.setIfInBounds_toArray, List.set_cons_zero, List.set_cons_succ]
      refine wpAnyH_take (i := 6) (v := ?_) (by rw [List.getElem?_toArray]; rfl) (by kernel_rfl) (by kernel_rfl) (by kernel_rfl) (by exact fun _ _ _ h => h) (Or.inl ⟨by rfl, ?_⟩) h0 ?_
      rotate_left
      · intro W hW
        go_simp
        all_goals with_reducible rfl
      try simp only [Act.put, List.setIfInBounds_toArray, List.set_cons_zero, List.set_cons_succ]
      refine wpAnyH_take (i := 7) (v := ?_) (by rw [List.getElem?_toArray]; rfl) (by kernel_rfl) (by kernel_rfl) (by kernel_rfl) (by exact fun _ _ _ h => h) (Or.inl ⟨by rfl, ?_⟩) h0 ?_
      rotate_left
      · intro W hW
        go_simp
        all_goals with_reducible rfl
      try simp only [Act.put, List.setIfInBounds_toArray, List.set_cons_zero, List.set_cons_succ]
      refine wpAnyH_take (i := 8) (v := ?_) (by rw [List.getElem?_toArray]; rfl) (by kernel_rfl) (by kernel_rfl) (by kernel_rfl) (by exact fun _ _ _ h => h) (Or.inl ⟨by rfl, ?_⟩) h0 ?_
      rotate_left
      · intro W hW
        go_simp
        all_goals with_reducible rfl
      try simp only [Act.put, List.setIfInBounds_toArray, List.set_cons_zero, List.set_cons_succ]
      refine wpAnyH_take (i := 9) (v := ?_) (by rw [List.getElem?_toArray]; rfl) (by kernel_rfl) (by kernel_rfl) (by kernel_rfl) (by exact fun _ _ _ h => h) (Or.inl ⟨by rfl, ?_⟩) h0 ?_
      rotate_left
      · intro W hW
        have cc := hW.2
        go_simp
        all_goals with_reducible rfl
      try simp only [Act.put, List.setIfInBounds_toArray, List.set_cons_zero, List.set_cons_succ]
      refine wpAnyH_ready (rs := [10]) (by kernel_rfl) (by simp) ?_
      refine AllReadyH.cons (by rw [List.getElem?_toArray]; rfl) (fun K hK => ?_) AllReadyH.nil
      rw [if_pos (by rfl)]
      go_wp2_with fail
      refine (Pair_any (show Tbl wr.drew from HT.out.on hS.out.hs.below.drew HT.out.pos) lA lB bA bB).mono ?_
      rintro e w3 ⟨rfl, hb3⟩
      rw [show sha (frm (sn pairS) [A, B]) = pr A B from rfl]
      have hb3' : Below wr.heap.size wr w3 := ((Below.refl wr.heap.size wr).drew).trans hb3
      have K3 : Hid (rowOf w3 b (off + 2 * i * 32) 32 = hc A ∧ rowOf w3 b (off + (2 * i + 1) * 32) 32 = hc B) := Lib.hid ⟨by rw [rowOf_on (by rw [r1, lcA, lA]; omega) hb3']; exact r1, by rw [rowOf_on (by rw [r2, lcB, lB]; omega) hb3']; exact r2⟩
      have S3 : Hid (NxS w w3 (some ⟨b, off, none⟩) Ss (.slice qo i co) (upK Ss i)) := Lib.hid ⟨hS.out.hs.on hb3', hS.out.rd.on HL.out hb3'⟩
      obtain ⟨Y, hY⟩ : ∃ Y, pr A B = Y := ⟨_, rfl⟩
      have lY : Y.length = 32 := by rw [← hY]; exact sha_len _
      have bY : Bytes Y := by rw [← hY]; exact sha_bytes _
      have HY := Lib.hid hY
      have lcY := hc_len Y
      rw [hY]
      clear hb3 hb3' hY
      go_wp2_with fail
      refine hK.out _ _ (K3.out) (fun h10 => ?_)
      clear hK K
      try simp only [Act.put, List.setIfInBounds_toArray, List.set_cons_zero, List.set_cons_succ]
      refine wpAnyH_ready (rs := [11]) (by kernel_rfl) (by simp) ?_
      refine AllReadyH.cons (by rw [List.getElem?_toArray]; rfl) (fun K hK => ?_) AllReadyH.nil
      rw [if_pos (by rfl)]
      have b4 : Below w3.heap.size w3 (w3.alloc (.cells (hc Y).toArray 36)) := (Below.refl _ _).alloc (Nat.le_refl _) _
      have K4 : Hid (rowOf (w3.alloc (.cells (hc Y).toArray 36)) b (off + 2 * i * 32) 32 = hc A ∧ rowOf (w3.alloc (.cells (hc Y).toArray 36)) b (off + (2 * i + 1) * 32) 32 = hc B) := Lib.hid ⟨by rw [rowOf_on (by rw [K3.out.1, lcA, lA]; omega) b4]; exact K3.out.1, by rw [rowOf_on (by rw [K3.out.2, lcB, lB]; omega) b4]; exact K3.out.2⟩
      have S4 : Hid (NxS w (w3.alloc (.cells (hc Y).toArray 36)) (some ⟨b, off, none⟩) Ss (.slice qo i co) (upK Ss i)) := Lib.hid ⟨S3.out.hs.on b4, S3.out.rd.on HL.out b4⟩
      have R4 := Lib.hid (one_hs (w := w3) lY bY)
      clear b4
      go_wp2_with fail
      refine hK.out _ _ (K4.out) (fun h11 => ?_)
      clear hK K
      try simp only [Act.put, List.setIfInBounds_toArray, List.set_cons_zero, List.set_cons_succ]
      refine wpAnyH_ready (rs := [12]) (by kernel_rfl) (by simp) ?_
      refine AllReadyH.cons (by rw [List.getElem?_toArray]; rfl) (fun K hK => ?_) AllReadyH.nil
      rw [if_pos (by rfl)]
      have OW : (w3.alloc (.cells (hc Y).toArray 36)).ownsRow 0 36 32 (.slice qo i co) i (hcs (upK Ss i)) := by have := S4.out.hs.own; rw [upK_len] at this; exact this
      refine wp_append_row _ _ rfl Tryd.underlying26 hi.out hz0.out hz1.out hz2.out zero_cells OW (R4.out.src (P := Tryd.prog) (HsOk.one lY bY) Tryd.underlying26) ?b1 ?b2 ?_
      case b1 => unfold maxLen; (try simp only [List.length_singleton]); omega
      case b2 => (try simp only [List.length_singleton]); omega
      intro q6 k6 w6 own6' grow6' fr6'
      have grow6 : (w3.alloc (.cells (hc Y).toArray 36)).grownBy w6 (Value.slice qo i co).ownBlock := grow6'
      have fr6 : (Value.slice q6 (i + 1) k6).ownBlock = (Value.slice qo i co).ownBlock ∨ (Value.slice q6 (i + 1) k6).ownBlock = some (w3.alloc (.cells (hc Y).toArray 36)).heap.size := fr6'
      have HN : Hid (NxS w w6 (some ⟨b, off, none⟩) Ss (.slice q6 (i + 1) k6) (upK Ss (i + 1))) := by
        have e : upK Ss (i + 1) = upK Ss i ++ [Y] := by rw [upK_succ, ← HY.out, ← HAe.out, ← HBe.out]; congr 2; unfold upAt; rw [if_pos (by omega)]
        have hc : Chg (w3.alloc (.cells (hc Y).toArray 36)) w6 (Value.slice qo i co).ownBlock.toList := Chg.grown grow6 (fun g hg => by simp [hg])
        rw [e]
        refine ⟨S4.out.hs.grow (HsOk.one lY bY) rfl ?_ grow6 fr6, ?_⟩
        · rw [upK_len]; exact own6'
        · refine S4.out.rd.chg HL.out hc (fun hne k0 off0 e0 hm => ?_)
          have h1 := S4.out.hs.fresh _ (by simpa using hm)
          have h2 := NB.out hne k0 off0 e0
          omega
      have K6 : Hid (rowOf w6 b (off + 2 * i * 32) 32 = hc A ∧ rowOf w6 b (off + (2 * i + 1) * 32) 32 = hc B) := by
        obtain ⟨b', off', e', hx'⟩ := HN.out.rd.resolve_left (fun e => by rw [e] at hlt; simp at hlt)
        simp only [Option.some.injEq, Addr.mk.injEq] at e'
        obtain ⟨rfl, rfl, -⟩ := e'
        exact ⟨by rw [hx' (2 * i) (by omega), HAe.out], by rw [hx' (2 * i + 1) (by omega), HBe.out]⟩
      clear own6' grow6' fr6' grow6 fr6 OW
      refine hK.out _ _ (K6.out) (fun h12 => ?_)
      clear hK K
      try simp only [Act.put, List.setIfInBounds_toArray, List.set_cons_zero, List.set_cons_succ]
      refine wpAnyH_take (i := 13) (v := ?_) (by rw [List.getElem?_toArray]; rfl) (by kernel_rfl) (by kernel_rfl) (by kernel_rfl) (by exact fun _ _ _ h => h) (Or.inl ⟨by rfl, ?_⟩) h12 ?_
      rotate_left
      · intro W hW
        go_simp
        all_goals with_reducible rfl
      try simp only [Act.put, List.setIfInBounds_toArray, List.set_cons_zero, List.set_cons_succ]
      refine wpAnyH_done (by kernel_rfl) ?_ _
      clear h12 h11 h10 h0 S3 S4 K3 K4 K6 R4 hS
      go_wp2_with fail
      go_roundw
      case rel => exact ⟨i + 1, by first | (go_num; done) | (go_num; omega) | (congr 1; omega), by omega, ⟨_, _, rfl⟩, HN⟩
      case measure => simp [intOf]; omega
    · have hltI : ¬ 2 * (i : Int) + 1 < (Ss.length : Int) := by omega
      by_cases hodd : Ss.length % 2 = 1
      · have hodI : (Ss.length : Int) % 2 = 1 := by omega
        have hI : Ss.length = 2 * i + 1 := by omega
        have hIi : (Ss.length : Int) - 1 = 2 * (i : Int) := by omega
        have hnx : upK Ss (i + 1) = upL Ss := by unfold upL; congr 1; omega
        obtain ⟨b', off', e', hx'⟩ := hS.out.rd.resolve_left (fun e => by rw [e] at hpos; simp at hpos)
        simp only [Option.some.injEq, Addr.mk.injEq] at e'
        obtain ⟨rfl, rfl, -⟩ := e'
        have r1 := hx' (2 * i) (by omega)
        obtain ⟨lA, bA⟩ := HOK.out.get (2 * i) (by omega)
        clear hx'
        obtain ⟨A, hA⟩ : ∃ A, Ss.getD (2 * i) [] = A := ⟨_, rfl⟩
        rw [hA] at r1 lA bA
        have g0 : (0 : Int) ≤ 2 * (i : Int) := by omega
        have g1 : 2 * (i : Int) < (Ss.length : Int) := by omega
        have t0 : (2 * (i : Int)).toNat = 2 * i := by omega
        have HAe := Lib.hid hA
        have lcA := hc_len A
        clear hA
        have R4 := Lib.hid (one_hs (w := wr) lA bA)
        have b4 : Below wr.heap.size wr (wr.alloc (.cells (hc A).toArray 36)) := (Below.refl _ _).alloc (Nat.le_refl _) _
        have S4 : Hid (NxS w (wr.alloc (.cells (hc A).toArray 36)) (some ⟨b, off, none⟩) Ss (.slice qo i co) (upK Ss i)) := Lib.hid ⟨hS.out.hs.on b4, hS.out.rd.on HL.out b4⟩
        have OW : (wr.alloc (.cells (hc A).toArray 36)).ownsRow 0 36 32 (.slice qo i co) i (hcs (upK Ss i)) := by have := S4.out.hs.own; rw [upK_len] at this; exact this
        clear b4
        go_wp2_with (at_builtin; refine wpList_append_row rfl _ _ rfl Tryd.underlying26 hi.out hz0.out hz1.out hz2.out zero_cells OW (R4.out.src (P := Tryd.prog) (HsOk.one lA bA) Tryd.underlying26) ?b1 ?b2 ?_)
        case b1 => unfold maxLen; (try simp only [List.length_singleton]); omega
        case b2 => (try simp only [List.length_singleton]); omega
        intro q6 k6 w6 own6' grow6' fr6'
        have grow6 : (wr.alloc (.cells (hc A).toArray 36)).grownBy w6 (Value.slice qo i co).ownBlock := grow6'
        have fr6 : (Value.slice q6 (i + 1) k6).ownBlock = (Value.slice qo i co).ownBlock ∨ (Value.slice q6 (i + 1) k6).ownBlock = some (wr.alloc (.cells (hc A).toArray 36)).heap.size := fr6'.imp id fun e => by rw [e]; simp
        have HN : Hid (NxS w w6 (some ⟨b, off, none⟩) Ss (.slice q6 (i + 1) k6) (upK Ss (i + 1))) := by
          have e : upK Ss (i + 1) = upK Ss (i) ++ [A] := by rw [upK_succ, ← HAe.out]; congr 2; unfold upAt; rw [if_neg (by omega)]
          have hc : Chg (wr.alloc (.cells (hc A).toArray 36)) w6 (Value.slice qo i co).ownBlock.toList := Chg.grown grow6 (fun g hg => by simp [hg])
          rw [e]
          refine ⟨S4.out.hs.grow (HsOk.one lA bA) rfl ?_ grow6 fr6, ?_⟩
          · rw [upK_len]; exact own6'
          · refine S4.out.rd.chg HL.out hc (fun hne k0 off0 e0 hm => ?_)
            have h1 := S4.out.hs.fresh _ (by simpa using hm)
            have h2 := NB.out hne k0 off0 e0
            omega
        clear own6' grow6' fr6' grow6 fr6 OW S4 R4
        go_wp2_with fail
        go_ret
        have hli : (upL Ss).length = i + 1 := by rw [← hnx, upK_len]
        first | exact ⟨_, _, by rw [hli]; first | done | rfl, by rw [← hnx]; exact HN.out.hs.rd.2.1, HN.out.hs.below, fun a ha => HN.out.hs.fresh _ (by rw [ha]; rfl)⟩ | exact ⟨_, ⟨_, by first | rfl | (rw [hli]; done) | (rw [hli]; rfl)⟩, by rw [← hnx]; exact HN.out.hs.rd.2.1, HN.out.hs.below, fun a ha => HN.out.hs.fresh _ (by rw [ha]; rfl)⟩
      · have hodI : (Ss.length : Int) % 2 = 0 := by omega
        have hI : Ss.length = 2 * i := by omega
        have hnx : upK Ss i = upL Ss := by unfold upL; congr 1; omega
        go_wp2_with fail
        go_ret
        have hli : (upL Ss).length = i := by rw [← hnx, upK_len]
        first | exact ⟨_, _, by rw [hli]; first | done | rfl, by rw [← hnx]; exact hS.out.hs.rd.2.1, hS.out.hs.below, fun a ha => hS.out.hs.fresh _ (by rw [ha]; rfl)⟩ | exact ⟨_, ⟨_, by first | rfl | (rw [hli]; done) | (rw [hli]; rfl)⟩, by rw [← hnx]; exact hS.out.hs.rd.2.1, hS.out.hs.below, fun a ha => hS.out.hs.fresh _ (by rw [ha]; rfl)⟩

end Go.Proofs.YtebeacejlkiglaaDoor
namespace Go.Proofs.YtebeacejlkiglaaDoor
set_option maxRecDepth 100000
open Go.RowKit

set_option maxHeartbeats 8000000 in
theorem refNext_any {w : World} {q : Option Addr} {k : Nat} {Ss : List (List Int)} (hs : RdHs w q Ss) (ok : HsOk Ss) (hn : Ss.length ≤ 65536) (hpos : 0 < Ss.length) :
    Calls Tryd.prog 32 #[.slice q Ss.length k] w fun e w' => ∃ q' k', e = .returned (.slice q' (upL Ss).length k') ∧ RdHs w' q' (upL Ss) ∧ Below w.heap.size w w' ∧ ∀ a, q' = some a → w.heap.size ≤ a.block := by
  obtain ⟨i0, hi, hz0, hz1, hz2⟩ := info_parts Tryd.infoHs
  replace hi := Lib.hid hi
  replace hz0 := Lib.hid hz0
  replace hz1 := Lib.hid hz1
  replace hz2 := Lib.hid hz2
  have HL : Hid (∀ i, i < Ss.length → (Ss.getD i []).length = 32) := fun i hi => (ok.get i hi).1
  have HOK := Lib.hid ok
  obtain ⟨b, off, rfl, hx0⟩ := hs.resolve_left (fun e => by rw [e] at hpos; simp at hpos)
  have NB : Hid (Ss ≠ [] → ∀ k0 off0, (some ⟨b, off, none⟩ : Option Addr) = some ⟨k0, off0, none⟩ → k0 < w.heap.size) := fun _ k0 off0 e => by
    simp only [Option.some.injEq, Addr.mk.injEq] at e
    obtain ⟨rfl, rfl, -⟩ := e
    have h1 := hx0 0 hpos
    have h2 : (rowOf w b (off + 0 * 32) 32).length = 32 := by rw [h1, hc_len, (HOK.out.get 0 hpos).1]
    unfold rowOf at h2
    cases hh : w.heap[b]? with
    | none => rw [hh] at h2; simp at h2
    | some x => exact (Array.getElem?_eq_some_iff.1 hh).1
  have HS := Lib.hid hs
  clear hs ok hx0
  go_enter Tryd.func32, Tryd.ntmps32
  have S1 : Hid (NxS w w (some ⟨b, off, none⟩) Ss (.slice none 0 0) (upK Ss 0)) := Lib.hid ⟨HsS.start w, HS.out⟩
  go_wp2_with fail
  go_loopw [3, 4] (fun ov iv wr => ∃ i : Nat, iv = .int .i64 (2 * (i : Int)) ∧ 2 * i ≤ Ss.length + 1 ∧ (∃ qo co, ov = .slice qo i co) ∧ Hid (NxS w wr (some ⟨b, off, none⟩) Ss ov (upK Ss i))) (fun _ iv _ => Ss.length + 2 - (intOf iv).toNat)
  case atStart => exact ⟨0, rfl, by omega, ⟨_, _, rfl⟩, S1⟩
  case round =>
    clear S1 HS
    obtain ⟨i, rfl, hil, ⟨qo, co, rfl⟩, hS⟩ := hrel
    by_cases hlt0 : 2 * i < Ss.length
    · have hlt0I : 2 * (i : Int) < (Ss.length : Int) := by omega
      by_cases hlt : 2 * i + 1 < Ss.length
      · have hltI : 2 * (i : Int) + 1 < (Ss.length : Int) := by omega
        obtain ⟨b', off', e', hx'⟩ := hS.out.rd.resolve_left (fun e => by rw [e] at hlt; simp at hlt)
        simp only [Option.some.injEq, Addr.mk.injEq] at e'
        obtain ⟨rfl, rfl, -⟩ := e'
        have r1 := hx' (2 * i) (by omega)
        have r2 := hx' (2 * i + 1) (by omega)
        obtain ⟨lA, bA⟩ := HOK.out.get (2 * i) (by omega)
        obtain ⟨lB, bB⟩ := HOK.out.get (2 * i + 1) (by omega)
        clear hx'
        obtain ⟨A, hA⟩ : ∃ A, Ss.getD (2 * i) [] = A := ⟨_, rfl⟩
        obtain ⟨B, hB⟩ : ∃ B, Ss.getD (2 * i + 1) [] = B := ⟨_, rfl⟩
        rw [hA] at r1 lA bA
        rw [hB] at r2 lB bB
        have HAe := Lib.hid hA
        have HBe := Lib.hid hB
        have g0 : (0 : Int) ≤ 2 * (i : Int) := by omega
        have g1 : 2 * (i : Int) < (Ss.length : Int) := by omega
        have t0 : (2 * (i : Int)).toNat = 2 * i := by omega
        have g2 : (0 : Int) ≤ 2 * (i : Int) + 1 := by omega
        have t1 : (2 * (i : Int) + 1).toNat = 2 * i + 1 := by omega
        have kw : IntKind.i64.wrap (2 * (i : Int) + 1) = 2 * (i : Int) + 1 := IntWalk.i64_in _ (by omega)
        have lcA := hc_len A
        have lcB := hc_len B
        clear hA hB
        go_wp2_with fail
        refine wp_region_held_drew (S := fun W => rowOf W b (off + 2 * i * 32) 32 = hc A ∧ rowOf W b (off + (2 * i + 1) * 32) 32 = hc B) (by kernel_rfl) (⟨r1, r2⟩) (fun h0 => ?_)
        refine wpAnyH_take (i := 0) (v := ?_) (by rw [List.getElem?_toArray]; rfl) (by kernel_rfl) (by kernel_rfl) (by kernel_rfl) (by exact fun _ _ _ h => h) (Or.inl ⟨by rfl, ?_⟩) h0 ?_
        rotate_left
        · intro W hW
          go_simp
          all_goals with_reducible rfl
        try simp only [Act.put, List.setIfInBounds_toArray, List.set_cons_zero, List.set_cons_succ]
        refine wpAnyH_take (i := 1) (v := ?_) (by rw [List.getElem?_toArray]; rfl) (by kernel_rfl) (by kernel_rfl) (by kernel_rfl) (by exact fun _ _ _ h => h) (Or.inl ⟨by rfl, ?_⟩) h0 ?_
        rotate_left
        · intro W hW
          go_simp
          all_goals with_reducible rfl
        try simp only [Act.put, List.setIfInBounds_toArray, List.set_cons_zero, List.set_cons_succ]
        refine wpAnyH_take (i := 2) (v := ?_) (by rw [List.getElem?_toArray]; rfl) (by kernel_rfl) (by kernel_rfl) (by kernel_rfl) (by exact fun _ _ _ h => h) (Or.inl ⟨by rfl, ?_⟩) h0 ?_
        rotate_left
        · intro W hW
          go_simp
          all_goals with_reducible rfl
        try simp only [Act.put, List.setIfInBounds_toArray, List.set_cons_zero, List.set_cons_succ]
        refine wpAnyH_take (i := 3) (v := ?_) (by rw [List.getElem?_toArray]; rfl) (by kernel_rfl) (by kernel_rfl) (by kernel_rfl) (by exact fun _ _ _ h => h) (Or.inl ⟨by rfl, ?_⟩) h0 ?_
        rotate_left
        · intro W hW
          go_simp
          all_goals with_reducible rfl
        try simp only [Act.put, List.setIfInBounds_toArray, List.set_cons_zero, List.set_cons_succ]
        refine wpAnyH_take (i := 4) (v := ?_) (by rw [List.getElem?_toArray]; rfl) (by kernel_rfl) (by kernel_rfl) (by kernel_rfl) (by exact fun _ _ _ h => h) (Or.inl ⟨by rfl, ?_⟩) h0 ?_
        rotate_left
        · intro W hW
          have cc := hW.1
          go_simp
          all_goals with_reducible rfl
        try simp only [Act.put, List.setIfInBounds_toArray, List.set_cons_zero, List.set_cons_succ]
        refine wpAnyH_take (i := 5) (v := ?_) (by rw [List.getElem?_toArray]; rfl) (by kernel_rfl) (by kernel_rfl) (by kernel_rfl) (by exact fun _ _ _ h => h) (Or.inl ⟨by rfl, ?_⟩) h0 ?_
        rotate_left
        · intro W hW
          go_simp
          all_goals with_reducible rfl
        try simp only [Act.put, List.setIfInBounds_toArray, List.set_cons_zero, List.set_cons_succ]
        refine wpAnyH_take (i := 6) (v := ?_) (by rw [List.getElem?_toArray]; rfl) (by kernel_rfl) (by kernel_rfl) (by kernel_rfl) (by exact fun _ _ _ h => h) (Or.inl ⟨by rfl, ?_⟩) h0 ?_
        rotate_left
        · intro W hW
          go_simp
          all_goals with_reducible rfl
        try simp only [Act.put, List.setIfInBounds_toArray, List.set_cons_zero, List.set_cons_succ]
        refine wpAnyH_take (i := 7) (v := ?_) (by rw [List.getElem?_toArray]; rfl) (by kernel_rfl) (by kernel_rfl) (by kernel_rfl) (by exact fun _ _ _ h => h) (Or.inl ⟨by rfl, ?_⟩) h0 ?_
        rotate_left
        · intro W hW
          go_simp
          all_goals with_reducible rfl
        try simp only [Act.put, List.setIfInBounds_toArray, List.set_cons_zero, List.set_cons_succ]
        refine wpAnyH_take (i := 8) (v := ?_) (by rw [List.getElem?_toArray]; rfl) (by kernel_rfl) (by kernel_rfl) (by kernel_rfl) (by exact fun _ _ _ h => h) (Or.inl ⟨by rfl, ?_⟩) h0 ?_
        rotate_left
        · intro W hW
          go_simp
          all_goals with_reducible rfl
        try simp only [Act.put, List.setIfInBounds_toArray, List.set_cons_zero, List.set_cons_succ]
        refine wpAnyH_take (i := 9) (v := ?_) (by rw [List.getElem?_toArray]; rfl) (by kernel_rfl) (by kernel_rfl) (by kernel_rfl) (by exact fun _ _ _ h => h) (Or.inl ⟨by rfl, ?_⟩) h0 ?_
        rotate_left
        · intro W hW
          have cc := hW.2
          go_simp
          all_goals with_reducible rfl
        try simp only [Act.put, List.setIfInBounds_toArray, List.set_cons_zero, List.set_cons_succ]
        refine wpAnyH_ready (rs := [10]) (by kernel_rfl) (by simp) ?_
        refine AllReadyH.cons (by rw [List.getElem?_toArray]; rfl) (fun K hK => ?_) AllReadyH.nil
        rw [if_pos (by rfl)]
        go_wp2_with fail
        refine (refPair_any (w := wr.drew) lA lB bA bB).mono ?_
        rintro e w3 ⟨rfl, hb3⟩
        rw [show sha (frm (sn pairS) [A, B]) = pr A B from rfl]
        have hb3' : Below wr.heap.size wr w3 := ((Below.refl wr.heap.size wr).drew).trans hb3
        have K3 : Hid (rowOf w3 b (off + 2 * i * 32) 32 = hc A ∧ rowOf w3 b (off + (2 * i + 1) * 32) 32 = hc B) := Lib.hid ⟨by rw [rowOf_on (by rw [r1, lcA, lA]; omega) hb3']; exact r1, by rw [rowOf_on (by rw [r2, lcB, lB]; omega) hb3']; exact r2⟩
        have S3 : Hid (NxS w w3 (some ⟨b, off, none⟩) Ss (.slice qo i co) (upK Ss i)) := Lib.hid ⟨hS.out.hs.on hb3', hS.out.rd.on HL.out hb3'⟩
        obtain ⟨Y, hY⟩ : ∃ Y, pr A B = Y := ⟨_, rfl⟩
        have lY : Y.length = 32 := by rw [← hY]; exact sha_len _
        have bY : Bytes Y := by rw [← hY]; exact sha_bytes _
        have HY := Lib.hid hY
        have lcY := hc_len Y
        rw [hY]
        clear hb3 hb3' hY
        go_wp2_with fail
        refine hK.out _ _ (K3.out) (fun h10 => ?_)
        clear hK K
        try simp only [Act.put, List.setIfInBounds_toArray, List.set_cons_zero, List.set_cons_succ]
        refine wpAnyH_ready (rs := [11]) (by kernel_rfl) (by simp) ?_
        refine AllReadyH.cons (by rw [List.getElem?_toArray]; rfl) (fun K hK => ?_) AllReadyH.nil
        rw [if_pos (by rfl)]
        have b4 : Below w3.heap.size w3 (w3.alloc (.cells (hc Y).toArray 36)) := (Below.refl _ _).alloc (Nat.le_refl _) _
        have K4 : Hid (rowOf (w3.alloc (.cells (hc Y).toArray 36)) b (off + 2 * i * 32) 32 = hc A ∧ rowOf (w3.alloc (.cells (hc Y).toArray 36)) b (off + (2 * i + 1) * 32) 32 = hc B) := Lib.hid ⟨by rw [rowOf_on (by rw [K3.out.1, lcA, lA]; omega) b4]; exact K3.out.1, by rw [rowOf_on (by rw [K3.out.2, lcB, lB]; omega) b4]; exact K3.out.2⟩
        have S4 : Hid (NxS w (w3.alloc (.cells (hc Y).toArray 36)) (some ⟨b, off, none⟩) Ss (.slice qo i co) (upK Ss i)) := Lib.hid ⟨S3.out.hs.on b4, S3.out.rd.on HL.out b4⟩
        have R4 := Lib.hid (one_hs (w := w3) lY bY)
        clear b4
        go_wp2_with fail
        refine hK.out _ _ (K4.out) (fun h11 => ?_)
        clear hK K
        try simp only [Act.put, List.setIfInBounds_toArray, List.set_cons_zero, List.set_cons_succ]
        refine wpAnyH_ready (rs := [12]) (by kernel_rfl) (by simp) ?_
        refine AllReadyH.cons (by rw [List.getElem?_toArray]; rfl) (fun K hK => ?_) AllReadyH.nil
        rw [if_pos (by rfl)]
        have OW : (w3.alloc (.cells (hc Y).toArray 36)).ownsRow 0 36 32 (.slice qo i co) i (hcs (upK Ss i)) := by have := S4.out.hs.own; rw [upK_len] at this; exact this
        refine wp_append_row _ _ rfl Tryd.underlying26 hi.out hz0.out hz1.out hz2.out zero_cells OW (R4.out.src (P := Tryd.prog) (HsOk.one lY bY) Tryd.underlying26) ?b1 ?b2 ?_
        case b1 => unfold maxLen; (try simp only [List.length_singleton]); omega
        case b2 => (try simp only [List.length_singleton]); omega
        intro q6 k6 w6 own6' grow6' fr6'
        have grow6 : (w3.alloc (.cells (hc Y).toArray 36)).grownBy w6 (Value.slice qo i co).ownBlock := grow6'
        have fr6 : (Value.slice q6 (i + 1) k6).ownBlock = (Value.slice qo i co).ownBlock ∨ (Value.slice q6 (i + 1) k6).ownBlock = some (w3.alloc (.cells (hc Y).toArray 36)).heap.size := fr6'
        have HN : Hid (NxS w w6 (some ⟨b, off, none⟩) Ss (.slice q6 (i + 1) k6) (upK Ss (i + 1))) := by
          have e : upK Ss (i + 1) = upK Ss i ++ [Y] := by rw [upK_succ, ← HY.out, ← HAe.out, ← HBe.out]; congr 2; unfold upAt; rw [if_pos (by omega)]
          have hc : Chg (w3.alloc (.cells (hc Y).toArray 36)) w6 (Value.slice qo i co).ownBlock.toList := Chg.grown grow6 (fun g hg => by simp [hg])
          rw [e]
          refine ⟨S4.out.hs.grow (HsOk.one lY bY) rfl ?_ grow6 fr6, ?_⟩
          · rw [upK_len]; exact own6'
          · refine S4.out.rd.chg HL.out hc (fun hne k0 off0 e0 hm => ?_)
            have h1 := S4.out.hs.fresh _ (by simpa using hm)
            have h2 := NB.out hne k0 off0 e0
            omega
        have K6 : Hid (rowOf w6 b (off + 2 * i * 32) 32 = hc A ∧ rowOf w6 b (off + (2 * i + 1) * 32) 32 = hc B) := by
          obtain ⟨b', off', e', hx'⟩ := HN.out.rd.resolve_left (fun e => by rw [e] at hlt; simp at hlt)
          simp only [Option.some.injEq, Addr.mk.injEq] at e'
          obtain ⟨rfl, rfl, -⟩ := e'
          exact ⟨by rw [hx' (2 * i) (by omega), HAe.out], by rw [hx' (2 * i + 1) (by omega), HBe.out]⟩
        clear own6' grow6' fr6' grow6 fr6 OW
        refine hK.out _ _ (K6.out) (fun h12 => ?_)
        clear hK K
        try simp only [Act.put, List.setIfInBounds_toArray, List.set_cons_zero, List.set_cons_succ]
        refine wpAnyH_take (i := 13) (v := ?_) (by rw [List.getElem?_toArray]; rfl) (by kernel_rfl) (by kernel_rfl) (by kernel_rfl) (by exact fun _ _ _ h => h) (Or.inl ⟨by rfl, ?_⟩) h12 ?_
        rotate_left
        · intro W hW
          go_simp
          all_goals with_reducible rfl
        try simp only [Act.put, List.setIfInBounds_toArray, List.set_cons_zero, List.set_cons_succ]
        refine wpAnyH_done (by kernel_rfl) ?_ _
        clear h12 h11 h10 h0 S3 S4 K3 K4 K6 R4 hS
        go_wp2_with fail
        go_roundw
        case rel => exact ⟨i + 1, by first | (go_num; done) | (go_num; omega) | (congr 1; omega), by omega, ⟨_, _, rfl⟩, HN⟩
        case measure => simp [intOf]; omega
      · have hltI : ¬ 2 * (i : Int) + 1 < (Ss.length : Int) := by omega
        obtain ⟨b', off', e', hx'⟩ := hS.out.rd.resolve_left (fun e => by rw [e] at hpos; simp at hpos)
        simp only [Option.some.injEq, Addr.mk.injEq] at e'
        obtain ⟨rfl, rfl, -⟩ := e'
        have r1 := hx' (2 * i) (by omega)
        obtain ⟨lA, bA⟩ := HOK.out.get (2 * i) (by omega)
        clear hx'
        obtain ⟨A, hA⟩ : ∃ A, Ss.getD (2 * i) [] = A := ⟨_, rfl⟩
        rw [hA] at r1 lA bA
        have g0 : (0 : Int) ≤ 2 * (i : Int) := by omega
        have g1 : 2 * (i : Int) < (Ss.length : Int) := by omega
        have t0 : (2 * (i : Int)).toNat = 2 * i := by omega
        have HAe := Lib.hid hA
        have lcA := hc_len A
        clear hA
        have R4 := Lib.hid (one_hs (w := wr) lA bA)
        have b4 : Below wr.heap.size wr (wr.alloc (.cells (hc A).toArray 36)) := (Below.refl _ _).alloc (Nat.le_refl _) _
        have S4 : Hid (NxS w (wr.alloc (.cells (hc A).toArray 36)) (some ⟨b, off, none⟩) Ss (.slice qo i co) (upK Ss i)) := Lib.hid ⟨hS.out.hs.on b4, hS.out.rd.on HL.out b4⟩
        have OW : (wr.alloc (.cells (hc A).toArray 36)).ownsRow 0 36 32 (.slice qo i co) i (hcs (upK Ss i)) := by have := S4.out.hs.own; rw [upK_len] at this; exact this
        clear b4
        go_wp2_with (at_builtin; refine wpList_append_row rfl _ _ rfl Tryd.underlying26 hi.out hz0.out hz1.out hz2.out zero_cells OW (R4.out.src (P := Tryd.prog) (HsOk.one lA bA) Tryd.underlying26) ?b1 ?b2 ?_)
        case b1 => unfold maxLen; (try simp only [List.length_singleton]); omega
        case b2 => (try simp only [List.length_singleton]); omega
        intro q6 k6 w6 own6' grow6' fr6'
        have grow6 : (wr.alloc (.cells (hc A).toArray 36)).grownBy w6 (Value.slice qo i co).ownBlock := grow6'
        have fr6 : (Value.slice q6 (i + 1) k6).ownBlock = (Value.slice qo i co).ownBlock ∨ (Value.slice q6 (i + 1) k6).ownBlock = some (wr.alloc (.cells (hc A).toArray 36)).heap.size := fr6'.imp id fun e => by rw [e]; simp
        have HN : Hid (NxS w w6 (some ⟨b, off, none⟩) Ss (.slice q6 (i + 1) k6) (upK Ss (i + 1))) := by
          have e : upK Ss (i + 1) = upK Ss (i) ++ [A] := by rw [upK_succ, ← HAe.out]; congr 2; unfold upAt; rw [if_neg (by omega)]
          have hc : Chg (wr.alloc (.cells (hc A).toArray 36)) w6 (Value.slice qo i co).ownBlock.toList := Chg.grown grow6 (fun g hg => by simp [hg])
          rw [e]
          refine ⟨S4.out.hs.grow (HsOk.one lA bA) rfl ?_ grow6 fr6, ?_⟩
          · rw [upK_len]; exact own6'
          · refine S4.out.rd.chg HL.out hc (fun hne k0 off0 e0 hm => ?_)
            have h1 := S4.out.hs.fresh _ (by simpa using hm)
            have h2 := NB.out hne k0 off0 e0
            omega
        clear own6' grow6' fr6' grow6 fr6 OW S4 R4
        clear hS
        go_wp2_with fail
        go_roundw
        case rel => exact ⟨i + 1, by first | (go_num; done) | (go_num; omega) | (congr 1; omega), by omega, ⟨_, _, rfl⟩, HN⟩
        case measure => simp [intOf]; omega
    · have hltI : ¬ 2 * (i : Int) < (Ss.length : Int) := by omega
      have hnx : upK Ss i = upL Ss := by unfold upL; congr 1; omega
      have hli : (upL Ss).length = i := by rw [← hnx, upK_len]
      go_wp2_with fail
      go_ret
      first | exact ⟨_, _, by rw [hli]; first | done | rfl, by rw [← hnx]; exact hS.out.hs.rd.2.1, hS.out.hs.below, fun a ha => hS.out.hs.fresh _ (by rw [ha]; rfl)⟩ | exact ⟨_, ⟨_, by first | rfl | (rw [hli]; done) | (rw [hli]; rfl)⟩, by rw [← hnx]; exact hS.out.hs.rd.2.1, hS.out.hs.below, fun a ha => hS.out.hs.fresh _ (by rw [ha]; rfl)⟩

end Go.Proofs.YtebeacejlkiglaaDoor
namespace Go.Proofs.YtebeacejlkiglaaDoor
set_option maxRecDepth 100000
open Go.RowKit

set_option maxHeartbeats 4000000 in
theorem refFirst_any {w : World} {v : Value} {L : List (List Int)} (hL : RdL w v L []) (bL : ∀ b ∈ L, Bytes b) (hn : L.length ≤ 65536) (hx : ∀ i, (L.getD i []).length ≤ 1000000) :
    Calls Tryd.prog 31 #[v] w fun e w' => ∃ q k, e = .returned (.slice q L.length k) ∧ RdHs w' q (lvN L L.length) ∧ Below w.heap.size w w' ∧ ∀ a, q = some a → w.heap.size ≤ a.block := by
  obtain ⟨i0, hi, hz0, hz1, hz2⟩ := info_parts Tryd.infoHs
  replace hi := Lib.hid hi
  replace hz0 := Lib.hid hz0
  replace hz1 := Lib.hid hz1
  replace hz2 := Lib.hid hz2
  obtain ⟨q, c, rfl⟩ : ∃ q c, v = .slice q L.length c := by obtain ⟨q, c, e, _⟩ := hL; exact ⟨q, c, e⟩
  have HL := Lib.hid hL
  have HX := Lib.hid hx
  have HB : Hid (∀ i, i < L.length → Bytes (L.getD i [])) := fun i hi => by
    have e : L.getD i [] = L[i] := by simp [List.getD, hi]
    rw [e]; exact bL _ (List.getElem_mem hi)
  have S1 : Hid (HsS w w (.slice none 0 0) (lvN L 0)) := HsS.start w
  clear hL hx bL
  go_enter Tryd.func31, Tryd.ntmps31
  go_wp2_with fail
  go_loopw [3, 4] (fun ov iv wr => ∃ i : Nat, iv = .int .i64 i ∧ i ≤ L.length ∧ (∃ qo co, ov = .slice qo i co) ∧ Hid (HsS w wr ov (lvN L i))) (fun _ iv _ => L.length - (intOf iv).toNat)
  case atStart => exact ⟨0, rfl, by omega, ⟨_, _, rfl⟩, S1⟩
  case round =>
    clear S1
    obtain ⟨i, rfl, hil, ⟨qo, co, rfl⟩, hS⟩ := hrel
    by_cases hlt : i < L.length
    · obtain ⟨b, off, r, m, kc, -, rfl, -, cb, hm, hrd, -⟩ := (HL.out.chg (Chg.below hS.out.below (Nat.le_refl _) [])).at hlt
      have KI := Lib.hid (refItem_any (w := wr) (n := (i : Int)) (by omega) (by omega) hrd (HB.out i hlt) (HX.out i))
      have HS := Lib.hid (lvN_succ L i)
      subst hm
      clear hrd
      obtain ⟨xs, hxs⟩ : ∃ xs, L.getD i [] = xs := ⟨_, rfl⟩
      rw [hxs] at KI HS cb
      clear hxs
      have lY := hItem_len i xs
      have bY := hItem_bytes i xs
      obtain ⟨Y, hY⟩ : ∃ Y, hItem i xs = Y := ⟨_, rfl⟩
      rw [hY] at lY bY HS KI
      have lc := hc_len Y
      clear hY
      have ku : IntKind.u64.wrap (i : Int) = (i : Int) := by rw [IntKind.wrap_u64]; omega
      go_wp2_with fail
      refine KI.out.mono ?_
      rintro e w3 ⟨rfl, hb3⟩
      have b4 : Below w3.heap.size w3 (w3.alloc (.cells (hc Y).toArray 36)) := (Below.refl _ _).alloc (Nat.le_refl _) _
      have S4 : Hid (HsS w (w3.alloc (.cells (hc Y).toArray 36)) (.slice qo i co) (lvN L i)) := (hS.out.on hb3).on b4
      have R4 := Lib.hid (one_hs (w := w3) lY bY)
      have OW : (w3.alloc (.cells (hc Y).toArray 36)).ownsRow 0 36 32 (.slice qo i co) i (hcs (lvN L i)) := by have := S4.out.own; rw [lvN_len] at this; exact this
      clear b4 hS hb3 KI cb
      go_wp2_with (at_builtin; refine wpList_append_row rfl _ _ rfl Tryd.underlying26 hi.out hz0.out hz1.out hz2.out zero_cells OW (R4.out.src (P := Tryd.prog) (HsOk.one lY bY) Tryd.underlying26) ?b1 ?b2 ?_)
      case b1 => unfold maxLen; (try simp only [List.length_singleton]); omega
      case b2 => (try simp only [List.length_singleton]); omega
      intro q6 k6 w6 own6 grow6 fr6
      have HN : Hid (HsS w w6 (.slice q6 (i + 1) k6) (lvN L (i + 1))) := by
        rw [HS.out]
        refine S4.out.grow (HsOk.one lY bY) rfl ?_ grow6 (fr6.imp id fun e => by rw [e]; simp)
        rw [lvN_len]; exact own6
      clear own6 grow6 fr6 OW S4 R4 HS
      go_wp2_with fail
      go_roundw
      case rel => exact ⟨i + 1, by go_num, by omega, ⟨_, _, rfl⟩, HN⟩
      case measure => simp [intOf]; omega
    · obtain rfl : i = L.length := by omega
      go_wp2_with fail
      go_ret
      exact ⟨_, _, rfl, hS.out.rd.2.1, hS.out.below, fun a ha => hS.out.fresh _ (by rw [ha]; rfl)⟩
end Go.Proofs.YtebeacejlkiglaaDoor
namespace Go.Proofs.YtebeacejlkiglaaDoor
set_option maxRecDepth 100000
open Go.RowKit

theorem num_any (n : Int) (w : World) : Calls Tryd.prog 15 #[.int .i64 n] w fun e w' => e = .returned (.int .i64 n) ∧ w' = w := by
  go_enter Tryd.func15, Tryd.ntmps15
  go_wp2_with fail
  go_ret
  exact ⟨rfl, rfl⟩

/-- What Same reads. -/
structure SaS (w wr : World) (P C : Int) (q q' : Option Addr) (k k' : Nat) (Ss : List (List Int)) : Prop where
  below : Below w.heap.size w wr
  hA : wr.heap[w.heap.size]? = some (.cells #[.int .i64 P, .int .i64 C, .slice q Ss.length k] 28 (0, 0))
  hB : wr.heap[w.heap.size + 1]? = some (.cells #[.int .i64 P, .int .i64 C, .slice q' Ss.length k'] 32 (0, 0))
  rA : RdHs wr q Ss
  rB : RdHs wr q' Ss
theorem SaS.drewN {w wr : World} {P C : Int} {q q' : Option Addr} {k k' : Nat} {Ss : List (List Int)} (h : SaS w wr P C q q' k k' Ss) (n : Nat) : SaS w (wr.drewN n) P C q q' k k' Ss :=
  ⟨below_drewN h.below n, h.hA, h.hB, h.rA, h.rB⟩

set_option maxHeartbeats 4000000 in
theorem Same_any {w : World} {P C : Int} {q q' : Option Addr} {k k' : Nat} {Ss : List (List Int)} (hs : RdHs w q Ss) (hs' : RdHs w q' Ss) (ok : HsOk Ss) (hn : Ss.length ≤ maxLen) :
    Calls Tryd.prog 14 #[.agg #[.int .i64 P, .int .i64 C, .slice q Ss.length k], .agg #[.int .i64 P, .int .i64 C, .slice q' Ss.length k']] w fun e w' => e = .returned (.bool true) ∧ Below w.heap.size w w' := by
  have b1 : Below w.heap.size w (w.alloc (.cells #[.int .i64 P, .int .i64 C, .slice q Ss.length k] 28)) := (Below.refl _ _).alloc (Nat.le_refl _) _
  have b2 : Below (w.alloc (.cells #[.int .i64 P, .int .i64 C, .slice q Ss.length k] 28)).heap.size (w.alloc (.cells #[.int .i64 P, .int .i64 C, .slice q Ss.length k] 28)) ((w.alloc (.cells #[.int .i64 P, .int .i64 C, .slice q Ss.length k] 28)).alloc (.cells #[.int .i64 P, .int .i64 C, .slice q' Ss.length k'] 32)) := (Below.refl _ _).alloc (Nat.le_refl _) _
  have hp := heap_alloc_new w (.cells #[.int .i64 P, .int .i64 C, .slice q Ss.length k] 28)
  have hp2 := heap_alloc_new (w.alloc (.cells #[.int .i64 P, .int .i64 C, .slice q Ss.length k] 28)) (.cells #[.int .i64 P, .int .i64 C, .slice q' Ss.length k'] 32)
  rw [show (w.alloc (.cells #[.int .i64 P, .int .i64 C, .slice q Ss.length k] 28)).heap.size = w.heap.size + 1 by simp] at hp2
  have HL : Hid (∀ i, i < Ss.length → (Ss.getD i []).length = 32) := fun i hi => (ok.get i hi).1
  have B0 := b1.trans (b2.mono b1.size)
  have S0 : Hid (SaS w _ P C q q' k k' Ss) := Lib.hid ⟨B0, blk_onB2 hp b2, hp2, hs.on HL.out B0, hs'.on HL.out B0⟩
  have c0 := (Joins.cell_of_block S0.out.hA 0).trans (rfl : _ = some _)
  have c1 := (Joins.cell_of_block S0.out.hA 1).trans (rfl : _ = some _)
  have c2 := (Joins.cell_of_block S0.out.hA 2).trans (rfl : _ = some _)
  have d0 := (Joins.cell_of_block S0.out.hB 0).trans (rfl : _ = some _)
  have d1 := (Joins.cell_of_block S0.out.hB 1).trans (rfl : _ = some _)
  have d2 := (Joins.cell_of_block S0.out.hB 2).trans (rfl : _ = some _)
  unfold maxLen at hn
  clear hp hp2 b1 b2 hs hs' ok B0
  go_enter Tryd.func14, Tryd.ntmps14
  go_wp2_with fail
  go_loopw [5] (fun iv wr => ∃ i : Nat, iv = .int .i64 i ∧ i ≤ Ss.length ∧ Hid (SaS w wr P C q q' k k' Ss)) (fun iv _ => Ss.length - (intOf iv).toNat)
  case atStart => exact ⟨0, rfl, by omega, S0⟩
  case round =>
    clear S0 c0 c1 c2 d0 d1 d2
    obtain ⟨i, rfl, hi, hS⟩ := hrel
    have c2 := (Joins.cell_of_block hS.out.hA 2).trans (rfl : _ = some _)
    have d2 := (Joins.cell_of_block hS.out.hB 2).trans (rfl : _ = some _)
    by_cases hlt : i < Ss.length
    · have hne : Ss ≠ [] := fun e => by rw [e] at hlt; simp at hlt
      obtain ⟨b, off, rfl, hx⟩ := hS.out.rA.resolve_left hne
      obtain ⟨b', off', rfl, hx'⟩ := hS.out.rB.resolve_left hne
      have r1 := hx i hlt
      have r2 := hx' i hlt
      have hl := HL.out i hlt
      have lc := hc_len (Ss.getD i [])
      generalize Ss.getD i [] = F at r1 r2 hl lc
      have dg : (F == F) = true := by simp
      clear hx hx' hne
      go_wp2_with fail
      go_region
      go_wp2_with fail
      go_roundw
      case rel => exact ⟨i + 1, by go_num, by omega, Lib.hid (hS.out.drewN _)⟩
      case measure => simp [intOf]; omega
    · obtain rfl : i = Ss.length := by omega
      have BE := Lib.hid hS.out.below
      clear hS
      go_wp2_with fail
      go_ret
      exact ⟨rfl, BE.out⟩
end Go.Proofs.YtebeacejlkiglaaDoor
namespace Go.Proofs.YtebeacejlkiglaaDoor
set_option maxRecDepth 100000
open Go.RowKit

/-- What stands above all. -/
def tp : Nat → List (List Int) → List Int
  | 0, Ss => Ss.getD 0 []
  | f + 1, Ss => if Ss.length ≤ 1 then Ss.getD 0 [] else tp f (upL Ss)
def rtL (L : List (List Int)) : List Int := hList L.length (if L.length = 0 then zero32 else tp 17 (lvN L L.length))
theorem rtL_len (L : List (List Int)) : (rtL L).length = 32 := sha_len _
theorem rtL_bytes (L : List (List Int)) : Bytes (rtL L) := sha_bytes _
theorem zero32_bytes : Bytes zero32 := by
  intro x hx
  have e : ∀ x ∈ zero32, x = 0 := by decide
  rw [e x hx]; omega

/-- Where the way up stands. -/
structure TpS (w wr : World) (q : Option Addr) (Ss : List (List Int)) (f : Nat) (Z : List Int) : Prop where
  below : Below w.heap.size w wr
  rd : RdHs wr q Ss
  ok : HsOk Ss
  tp : tp f Ss = Z
  two : Ss.length ≤ 2 ^ f
  f : f ≤ 17
theorem TpS.next {w wr w3 : World} {q q' : Option Addr} {Ss : List (List Int)} {f : Nat} {Z : List Int} (h : TpS w wr q Ss f Z) (hlt : 1 < Ss.length) (hb : Below wr.heap.size wr w3) (hr : RdHs w3 q' (upL Ss)) : ∃ f', TpS w w3 q' (upL Ss) f' Z := by
  obtain ⟨h1, h2, h3, h4, h5, h6⟩ := h
  cases f with
  | zero => simp at h5; omega
  | succ f =>
    unfold Go.Proofs.YtebeacejlkiglaaDoor.tp at h4
    rw [if_neg (by omega)] at h4
    rw [Nat.pow_succ] at h5
    exact ⟨f, h1.trans (hb.mono h1.size), hr, upL_ok h3, h4, by rw [upL_len]; omega, by omega⟩
theorem TpS.top {w wr : World} {q : Option Addr} {Ss : List (List Int)} {f : Nat} {Z : List Int} (h : TpS w wr q Ss f Z) (hle : Ss.length = 1) : Ss.getD 0 [] = Z ∧ Z.length = 32 ∧ Bytes Z := by
  have e : Ss.getD 0 [] = Z := by
    have := h.tp
    cases f with
    | zero => exact this
    | succ f => unfold Go.Proofs.YtebeacejlkiglaaDoor.tp at this; rw [if_pos (by omega)] at this; exact this
  have h2 := h.ok.get 0 (by omega)
  rw [e] at h2
  exact ⟨e, h2⟩

set_option maxHeartbeats 4000000 in
theorem Root_any {w : World} {v : Value} {L : List (List Int)} (hL : RdL w v L []) (bL : ∀ b ∈ L, Bytes b) (hn : L.length ≤ 65536) (hx : ∀ i, (L.getD i []).length ≤ 1000000) (hT : Tbl w) :
    Calls Tryd.prog 12 #[v] w fun e w' => e = .returned (.agg (hc (rtL L)).toArray) ∧ Below w.heap.size w w' := by
  obtain ⟨q, c, rfl⟩ : ∃ q c, v = .slice q L.length c := by obtain ⟨q, c, e, _⟩ := hL; exact ⟨q, c, e⟩
  have b0 : Below w.heap.size w (w.alloc (.cells (hc zero32).toArray 36)) := (Below.refl _ _).alloc (Nat.le_refl _) _
  have HZ := Lib.hid (HashAt.new w zero32)
  have B0 := Lib.hid b0
  have HT := Lib.hid (hT.on b0 hT.pos)
  have KI := Lib.hid (items_any (w := (w.alloc (.cells (hc zero32).toArray 36))) (hL.chg (Chg.below b0 (Nat.le_refl _) [])) bL hn hx HT.out)
  obtain ⟨Z, hZ⟩ : ∃ Z, (if L.length = 0 then zero32 else tp 17 (lvN L L.length)) = Z := ⟨_, rfl⟩
  have hR : rtL L = hList L.length Z := by unfold rtL; rw [hZ]
  have hRl := rtL_len L
  obtain ⟨R, hRe⟩ : ∃ R, rtL L = R := ⟨_, rfl⟩
  rw [hRe] at hR hRl ⊢
  have HR := Lib.hid hR
  have lR := hc_len R
  clear hL bL hx hT b0 hR hRe
  go_enter Tryd.func12, Tryd.ntmps12
  go_wp2_with fail
  generalize (w.alloc (.cells (hc zero32).toArray 36)) = W0 at *
  refine KI.out.mono ?_
  rintro e w1 ⟨q1, rfl, hr1, hb1, -⟩
  have HT1 := Lib.hid (HT.out.on hb1 HT.out.pos)
  have Z1 := Lib.hid (HZ.out.on hb1)
  have B1 := Lib.hid (B0.out.trans (hb1.mono B0.out.size))
  have LV := lvN_len L L.length
  have S1 : Hid (TpS w1 w1 q1 (lvN L L.length) 17 (tp 17 (lvN L L.length))) := Lib.hid ⟨Below.refl _ _, hr1, lvN_ok _ _, rfl, by rw [LV]; omega, by omega⟩
  clear hr1 hb1 KI HT HZ B0
  go_wp2_with fail
  go_loopw [3] (fun ov wr => ∃ q k, ∃ (Ss : List (List Int)) (f : Nat), ov = .slice q Ss.length k ∧ Ss.length ≤ 65536 ∧ (L.length = 0 ↔ Ss.length = 0) ∧ Hid (TpS w1 wr q Ss f (tp 17 (lvN L L.length)))) (fun ov _ => match ov with | .slice _ n _ => n | _ => 0)
  case atStart => exact ⟨_, _, lvN L L.length, 17, by rw [LV], by rw [LV]; exact hn, by rw [LV], S1⟩
  case round =>
    clear S1
    obtain ⟨q2, k2, Ss, f, rfl, hS6, hS0, hS⟩ := hrel
    by_cases hlt : 1 < Ss.length
    · have KN := Lib.hid (next_any (w := wr) (k := k2) hS.out.rd hS.out.ok hS6 (by omega) (HT1.out.on hS.out.below HT1.out.pos))
      have HUL := Lib.hid (upL_len Ss)
      go_wp2_with fail
      refine KN.out.mono ?_
      rintro e w3 ⟨q3, k3, rfl, hr3, hb3, -⟩
      obtain ⟨f', hN⟩ := hS.out.next hlt hb3 hr3
      have HN := Lib.hid hN
      clear hN hr3 hb3 KN hS
      go_wp2_with fail
      go_roundw
      case rel => exact ⟨_, _, _, f', rfl, by rw [HUL.out]; omega, by rw [HUL.out]; omega, HN⟩
      case measure => have e := HUL.out; show (upL Ss).length < Ss.length; omega
    · have HT2 := Lib.hid (HT1.out.on hS.out.below HT1.out.pos)
      have BW := Lib.hid (B1.out.trans (hS.out.below.mono B1.out.size))
      have Z2 := Lib.hid (Z1.out.on hS.out.below)
      have BA : Below wr.heap.size wr (wr.alloc (.cells (hc zero32).toArray 36)) := (Below.refl _ _).alloc (Nat.le_refl _) _
      have HA4 := Lib.hid (HashAt.new wr zero32)
      have hsz : w.heap.size < wr.heap.size := Z2.out.lt
      have lz := hc_len zero32
      by_cases h0 : L.length = 0
      · have hs0 : Ss.length = 0 := hS0.1 h0
        have hZ0 : Z = zero32 := by rw [← hZ, if_pos h0]
        subst hZ0
        have cr4 := HA4.out.row zero32_len
        have KL := Lib.hid (list_any (w := wr.alloc (.cells (hc zero32).toArray 36)) (n := (L.length : Int)) (F := zero32) (by omega) (by omega) zero32_len zero32_bytes (HT2.out.on BA HT2.out.pos))
        have Z4 := Lib.hid (Z2.out.on BA)
        have B4 := Lib.hid (BW.out.trans (BA.mono BW.out.size))
        clear hS BA h0 hS0 hZ
        go_wp2_with fail
        refine KL.out.mono ?_
        rintro e w5 ⟨rfl, hb5⟩
        rw [← HR.out]
        have Z5 := Lib.hid (Z4.out.on hb5)
        have ct := Z5.out.there zero32_len
        have B5 := Lib.hid (B4.out.trans (hb5.mono B4.out.size))
        clear hb5 KL cr4
        go_wp2_with fail
        have cf := (Z5.out.put zero32_len hRl).row hRl
        refine bodyPost_ret (v := .agg (hc R).toArray) (by simp [results, Tryd.results12, go_sem, cf, lR, hRl]) rfl ⟨rfl, below_setCells' _ (Nat.le_refl _) _ _ B5.out⟩
      · have hs1 : Ss.length = 1 := by have := hS0.2; omega
        have hZ1 : tp 17 (lvN L L.length) = Z := by rw [← hZ, if_neg h0]
        rw [hZ1] at hS
        obtain ⟨eZ, lZ, bZ⟩ := hS.out.top hs1
        obtain ⟨b, off, rfl, hx⟩ := hS.out.rd.resolve_left (fun e => by rw [e] at hs1; simp at hs1)
        have r0 := hx 0 (by omega)
        rw [eZ, Nat.zero_mul, Nat.add_zero] at r0
        have lcZ := hc_len Z
        have r4 : rowOf (wr.alloc (.cells (hc zero32).toArray 36)) b off 32 = hc Z := by rw [rowOf_on (by rw [r0, lcZ, lZ]; omega) BA]; exact r0
        have ct4 := HA4.out.there zero32_len
        have P4 := Lib.hid (HA4.out.put zero32_len lZ)
        have cr4 := P4.out.row lZ
        have BS : Below wr.heap.size wr ((wr.alloc (.cells (hc zero32).toArray 36)).setCells wr.heap.size 0 (hc Z)) := below_setCells' _ (Nat.le_refl _) _ _ BA
        have KL := Lib.hid (list_any (w := (wr.alloc (.cells (hc zero32).toArray 36)).setCells wr.heap.size 0 (hc Z)) (n := (L.length : Int)) (F := Z) (by omega) (by omega) lZ bZ (HT2.out.on BS HT2.out.pos))
        have Z4 := Lib.hid (Z2.out.on BS)
        have B4 := Lib.hid (BW.out.trans (BS.mono BW.out.size))
        clear hS BA BS hx eZ r0
        go_wp2_with fail
        refine KL.out.mono ?_
        rintro e w5 ⟨rfl, hb5⟩
        rw [← HR.out]
        have Z5 := Lib.hid (Z4.out.on hb5)
        have ct := Z5.out.there zero32_len
        have B5 := Lib.hid (B4.out.trans (hb5.mono B4.out.size))
        clear hb5 KL cr4 ct4 r4
        go_wp2_with fail
        have cf := (Z5.out.put zero32_len hRl).row hRl
        refine bodyPost_ret (v := .agg (hc R).toArray) (by simp [results, Tryd.results12, go_sem, cf, lR, hRl]) rfl ⟨rfl, below_setCells' _ (Nat.le_refl _) _ _ B5.out⟩

end Go.Proofs.YtebeacejlkiglaaDoor
namespace Go.Proofs.YtebeacejlkiglaaDoor
set_option maxRecDepth 100000
open Go.RowKit

set_option maxHeartbeats 4000000 in
theorem refRoot_any {w : World} {v : Value} {L : List (List Int)} (hL : RdL w v L []) (bL : ∀ b ∈ L, Bytes b) (hn : L.length ≤ 65536) (hx : ∀ i, (L.getD i []).length ≤ 1000000) :
    Calls Tryd.prog 13 #[v] w fun e w' => e = .returned (.agg (hc (rtL L)).toArray) ∧ Below w.heap.size w w' := by
  obtain ⟨q, c, rfl⟩ : ∃ q c, v = .slice q L.length c := by obtain ⟨q, c, e, _⟩ := hL; exact ⟨q, c, e⟩
  have b0 : Below w.heap.size w (w.alloc (.cells (hc zero32).toArray 36)) := (Below.refl _ _).alloc (Nat.le_refl _) _
  have HZ := Lib.hid (HashAt.new w zero32)
  have B0 := Lib.hid b0
  have KI := Lib.hid (refFirst_any (w := (w.alloc (.cells (hc zero32).toArray 36))) (hL.chg (Chg.below b0 (Nat.le_refl _) [])) bL hn hx)
  obtain ⟨Z, hZ⟩ : ∃ Z, (if L.length = 0 then zero32 else tp 17 (lvN L L.length)) = Z := ⟨_, rfl⟩
  have hR : rtL L = hList L.length Z := by unfold rtL; rw [hZ]
  have hRl := rtL_len L
  obtain ⟨R, hRe⟩ : ∃ R, rtL L = R := ⟨_, rfl⟩
  rw [hRe] at hR hRl ⊢
  have HR := Lib.hid hR
  have lR := hc_len R
  have lz := hc_len zero32
  clear hL bL hx b0 hR hRe
  go_enter Tryd.func13, Tryd.ntmps13
  by_cases h0 : L.length = 0
  · have hZ0 : Z = zero32 := by rw [← hZ, if_pos h0]
    subst hZ0
    have HR0 : Hid (R = hList 0 zero32) := by rw [HR.out, h0]; exact Lib.hid rfl
    have KL := Lib.hid (refTop_any (w := (w.alloc (.cells (hc zero32).toArray 36))) (n := 0) (F := zero32) (by omega) (by omega) zero32_len zero32_bytes)
    clear hZ
    go_wp2_with fail
    generalize (w.alloc (.cells (hc zero32).toArray 36)) = W0 at *
    refine KL.out.mono ?_
    rintro e w5 ⟨rfl, hb5⟩
    rw [← HR0.out]
    have Z5 := Lib.hid (HZ.out.on hb5)
    have ct := Z5.out.there zero32_len
    have B5 := Lib.hid (B0.out.trans (hb5.mono B0.out.size))
    clear hb5 KL
    go_wp2_with fail
    have cf := (Z5.out.put zero32_len hRl).row hRl
    refine bodyPost_ret (v := .agg (hc R).toArray) (by simp [results, Tryd.results13, go_sem, cf, lR, hRl]) rfl ⟨rfl, below_setCells' _ (Nat.le_refl _) _ _ B5.out⟩
  have h0I : ¬ (L.length : Int) = 0 := by omega
  go_wp2_with fail
  generalize (w.alloc (.cells (hc zero32).toArray 36)) = W0 at *
  refine KI.out.mono ?_
  rintro e w1 ⟨q1, k1, rfl, hr1, hb1, -⟩
  have Z1 := Lib.hid (HZ.out.on hb1)
  have B1 := Lib.hid (B0.out.trans (hb1.mono B0.out.size))
  have LV := lvN_len L L.length
  have S1 : Hid (TpS w1 w1 q1 (lvN L L.length) 17 (tp 17 (lvN L L.length))) := Lib.hid ⟨Below.refl _ _, hr1, lvN_ok _ _, rfl, by rw [LV]; omega, by omega⟩
  clear hr1 hb1 KI HZ B0
  go_wp2_with fail
  go_loopw [3] (fun ov wr => ∃ q k, ∃ (Ss : List (List Int)) (f : Nat), ov = .slice q Ss.length k ∧ Ss.length ≤ 65536 ∧ 0 < Ss.length ∧ Hid (TpS w1 wr q Ss f (tp 17 (lvN L L.length)))) (fun ov _ => match ov with | .slice _ n _ => n | _ => 0)
  case atStart => exact ⟨_, _, lvN L L.length, 17, by rw [LV], by rw [LV]; exact hn, by rw [LV]; omega, S1⟩
  case round =>
    clear S1
    obtain ⟨q2, k2, Ss, f, rfl, hS6, hS0, hS⟩ := hrel
    by_cases hlt : 1 < Ss.length
    · have KN := Lib.hid (refNext_any (w := wr) (k := k2) hS.out.rd hS.out.ok hS6 (by omega))
      have HUL := Lib.hid (upL_len Ss)
      go_wp2_with fail
      refine KN.out.mono ?_
      rintro e w3 ⟨q3, k3, rfl, hr3, hb3, -⟩
      obtain ⟨f', hN⟩ := hS.out.next hlt hb3 hr3
      have HN := Lib.hid hN
      clear hN hr3 hb3 KN hS
      go_wp2_with fail
      go_roundw
      case rel => exact ⟨_, _, _, f', rfl, by rw [HUL.out]; omega, by rw [HUL.out]; omega, HN⟩
      case measure => have e := HUL.out; show (upL Ss).length < Ss.length; omega
    · have BW := Lib.hid (B1.out.trans (hS.out.below.mono B1.out.size))
      have Z2 := Lib.hid (Z1.out.on hS.out.below)
      have hs1 : Ss.length = 1 := by omega
      have hZ1 : tp 17 (lvN L L.length) = Z := by rw [← hZ, if_neg h0]
      rw [hZ1] at hS
      obtain ⟨eZ, lZ, bZ⟩ := hS.out.top hs1
      obtain ⟨b, off, rfl, hx⟩ := hS.out.rd.resolve_left (fun e => by rw [e] at hs1; simp at hs1)
      have r0 := hx 0 (by omega)
      rw [eZ, Nat.zero_mul, Nat.add_zero] at r0
      have lcZ := hc_len Z
      have KL := Lib.hid (refTop_any (w := wr) (n := (L.length : Int)) (F := Z) (by omega) (by omega) lZ bZ)
      clear hS hx eZ
      go_wp2_with fail
      refine KL.out.mono ?_
      rintro e w5 ⟨rfl, hb5⟩
      rw [← HR.out]
      have Z5 := Lib.hid (Z2.out.on hb5)
      have ct := Z5.out.there zero32_len
      have B5 := Lib.hid (BW.out.trans (hb5.mono BW.out.size))
      clear hb5 KL r0
      go_wp2_with fail
      have cf := (Z5.out.put zero32_len hRl).row hRl
      refine bodyPost_ret (v := .agg (hc R).toArray) (by simp [results, Tryd.results13, go_sem, cf, lR, hRl]) rfl ⟨rfl, below_setCells' _ (Nat.le_refl _) _ _ B5.out⟩
end Go.Proofs.YtebeacejlkiglaaDoor
