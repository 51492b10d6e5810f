/-
  The walk of digest.Frame.
-/
import Derived.Test.YtjgfjmkfcippcaaDoorFrame2
namespace Go.Proofs.YtjgfjmkfcippcaaDoor
open Go.RowKit
set_option maxRecDepth 100000

theorem Tryd.infoU8 : (Tryd.prog.info? 5).map (fun i => (i.zero, i.size, i.bytes)) = some (some (.int .u8 0), 1, 1) := by kernel_rfl

/-- A tag, as far as it counts. -/
def cut255 (s : ByteArray) : ByteArray := if s.size ≤ 255 then s else s.extract 0 255
theorem cut_small {s : ByteArray} (h : s.size ≤ 255) : cut255 s = s := if_pos h
theorem cut_size (s : ByteArray) : (cut255 s).size ≤ 255 := by
  unfold cut255
  split
  · assumption
  · simp [ByteArray.size_extract]; omega

set_option maxHeartbeats 4000000 in
theorem Frame_cut {w : World} {s t : ByteArray} {v : Value} {L : List (List Int)} (hL : RdL w v L []) (hs : s.size ≤ maxLen) (hst : cut255 s = t) (hn : (frm (sn t) L).length ≤ 140737488355328) :
    Calls Tryd.prog 76 #[.string s, v] w fun e w' => e = .returned (.slice (some ⟨w.heap.size, 0, none⟩) (frm (sn t) L).length (frm (sn t) L).length) ∧
      RwK .u8 w' w.heap.size (frm (sn t) L).length 5 (fun i => (frm (sn t) L).getD i 0) ∧ Below w.heap.size w w' := by
  have h255 : t.size ≤ 255 := by rw [← hst]; exact cut_size s
  unfold maxLen at hs
  have hcut : (s.size ≤ 255 ∧ s = t) ∨ (255 < s.size ∧ s.extract 0 255 = t) := by
    by_cases h : s.size ≤ 255
    · exact .inl ⟨h, by rw [← hst]; exact (if_pos h).symm⟩
    · exact .inr ⟨by omega, by rw [← hst]; exact (if_neg h).symm⟩
  clear hst
  obtain ⟨q, c, rfl⟩ : ∃ q c, v = .slice q L.length c := by obtain ⟨q, c, e, _⟩ := hL; exact ⟨q, c, e⟩
  obtain ⟨i0, hi, hz0, hz1, hz2⟩ := info_parts Tryd.infoU8
  have HL := Lib.hid hL
  replace hi := Lib.hid hi
  replace hz0 := Lib.hid hz0
  replace hz1 := Lib.hid hz1
  replace hz2 := Lib.hid hz2
  have hsl := sn_len t
  have hmany := blobs_many L
  have hfl := frm_len (sn t) L
  have hLn : L.length ≤ 140737488355328 := by omega
  have hbl : (blobs L).length ≤ 140737488355328 := by omega
  obtain ⟨N, hN⟩ : ∃ N, (frm (sn t) L).length = N := ⟨_, rfl⟩
  have HN : Hid (1 + t.size + (blobs L).length = N) := by rw [← hN]; show _ = _; omega
  have HNf := Lib.hid hN
  have HSL := Lib.hid hsl
  have hNle : N ≤ 140737488355328 := by omega
  have hN0 : 1 + t.size ≤ N := by omega
  rw [hN] at hn ⊢
  clear hL hsl hmany hfl hn hN
  go_enter Tryd.func76, Tryd.ntmps76
  rcases hcut with ⟨hc1, hc2⟩ | ⟨hc1, hc2⟩
  · have hmin : min (s.size : Int) 255 = s.size := by omega
    obtain hc3 := hc2.symm
    subst hc3
    go_wp2_with fail
    clear hmin hc1
    go_loopw [5, 22] (fun nv iv wr => ∃ i : Nat, iv = .int .i64 i ∧ i ≤ L.length ∧ nv = .int .i64 (1 + (t.size : Int) + ((blobs (L.take i)).length : Int)) ∧ wr = w) (fun _ iv _ => L.length - (intOf iv).toNat)
    case atStart => exact ⟨0, rfl, by omega, by simp [blobs], rfl⟩
    case round =>
      obtain ⟨i, rfl, hil, rfl, rfl⟩ := hrel
      have hbi := blobs_le L i
      by_cases hlt : i < L.length
      · obtain ⟨b, off, r, m, k, -, rfl, -, hc, rfl, -, -⟩ := HL.out.at hlt
        have hbs := blobs_len hlt
        have hbl2 := blobs_le L (i + 1)
        have HE := Lib.hid hbs
        have g1 : ((blobs (L.take i)).length : Int) + 8 + ((L.getD i []).length : Int) ≤ 140737488355328 := by omega
        clear hbs hbl2
        generalize hbb : (L.getD i []).length = lb at hc g1 HE ⊢
        go_wp2_with fail
        go_roundw
        case rel => exact ⟨i + 1, by go_num, by omega, by rw [HE.out]; congr 1; omega, trivial⟩
        case measure => simp [intOf]; omega
      · obtain rfl : i = L.length := by omega
        rw [List.take_length]
        have hNN : (1 + (t.size : Int) + ((blobs L).length : Int)) = (N : Int) := by have := HN.out; omega
        rw [hNN]
        clear hlt hNN hbi hil
        go_wp2_with (refine wpList_make_full _ rfl _ _ _ rfl 0 _ _ _ _ Tryd.underlying64 hi.out hz0.out hz1.out _ _ _ _ N rfl rfl rfl rfl ?b1 ?b2 ?b3 ?_)
        case b1 => rw [hz2.out]; omega
        case b2 => unfold maxLen; omega
        case b3 => omega
        intro w1 own1 grow1
        have hr1 : RwK .u8 w1 wr.heap.size N 5 (fun _ => 0) := rw_of_made own1
        have hk1 : Chg wr w1 [] := Chg.grown grow1 (by simp)
        have hzz : wr.heap.size < w1.heap.size := hr1.lt
        have c0 := hr1.cell 0 (by omega)
        have f0 := hr1.free 0
        have R1 := Lib.hid (hr1.store (j := 0) (by omega) (t.size : Int))
        have K1 := Lib.hid (((hk1.mono (T := [wr.heap.size]) (by simp)).setCell (p := ⟨wr.heap.size, 0, none⟩) (.inl (by simp)) (.int .u8 (t.size : Int))))
        clear own1 grow1 hr1 hk1
        by_cases hN1 : N = 1
        · subst hN1
          have hL0 : L = [] := by have := blobs_many L; have := HN.out; exact List.eq_nil_of_length_eq_zero (by omega)
          subst hL0
          go_wp2_with (with_reducible refine wpList_copy_str rfl _ _ _ _ rfl 5 Tryd.underlying64 Tryd.size_u8 _ _ _ t rfl rfl R1.out 1 (by omega) (by intro h; first | rfl | omega) (by omega) ?_)
          intro w2 h2 k2
          have HR2 := Lib.hid h2
          have K2 := Lib.hid (K1.out.trans k2 (fun _ h _ => h))
          clear h2 k2 c0 f0 K1 R1
          go_wp2_with fail
          refine wp_loop_rounds 1 ?_
          rw [rounds_succ]
          go_wp2_with fail
          go_ret
          refine ⟨rfl, HR2.out.same (fun j hj => ?_), K2.out.toBelow (Nat.le_refl _) (by intro k hk; simp at hk; omega)⟩
          have := frm_start (sn t) [] (fun _ => 0) (j := j) (by unfold frmAt; omega)
          rw [HSL.out] at this
          exact this
        · go_wp2_with (with_reducible refine wpList_copy_str rfl _ _ _ _ rfl 5 Tryd.underlying64 Tryd.size_u8 _ _ _ t rfl rfl R1.out 1 (by omega) (by intro h; first | rfl | omega) (by omega) ?_)
          intro w2 h2 k2
          have HI : Hid (RwK .u8 w2 wr.heap.size N 5 (cpf (updK (fun _ => 0) 0 (t.size : Int)) 1 (sn t)) ∧ Below wr.heap.size wr w2 ∧ ∀ j, j < frmAt (sn t) L 0 → cpf (updK (fun _ => 0) 0 (t.size : Int)) 1 (sn t) j = (frm (sn t) L).getD j 0) :=
            ⟨h2, (K1.out.trans k2 (fun _ h _ => h)).toBelow (Nat.le_refl _) (by intro k hk; simp at hk; omega), fun j hj => by have := frm_start (sn t) L (fun _ => 0) hj; rw [HSL.out] at this; exact this⟩
          clear h2 k2 c0 f0 K1 R1
          obtain ⟨w0, rfl⟩ : ∃ w0 : World, w0 = wr := ⟨_, rfl⟩
          go_wp2_with fail
          go_loopw [9, 46] (fun av iv wr => ∃ (i : Nat) (f : Nat → Int), iv = .int .i64 i ∧ i ≤ L.length ∧ av = .int .i64 (1 + (t.size : Int) + ((blobs (L.take i)).length : Int)) ∧ Hid (RwK .u8 wr w0.heap.size N 5 f ∧ Below w0.heap.size w0 wr ∧ ∀ j, j < frmAt (sn t) L i → f j = (frm (sn t) L).getD j 0)) (fun _ iv _ => L.length - (intOf iv).toNat)
          case atStart => exact ⟨0, _, rfl, by omega, by simp [blobs], HI⟩
          case round =>
            clear HI
            obtain ⟨i, f, rfl, hil, rfl, hS⟩ := hrel
            by_cases hlt : i < L.length
            · obtain ⟨b, off, r, m, k, -, rfl, -, hcw, rfl, hrd, -⟩ := HL.out.at hlt
              have hc : wr.cell? ⟨b, off + i, none⟩ = some (.slice r (L.getD i []).length k) := by
                rw [World.cell?_of_block (w := w0) (hS.out.2.1.block b (lt_of_cell hcw))]; exact hcw
              have HRD := Lib.hid hrd
              have HSt := Lib.hid (fun j hj => frm_step (sn t) hlt hS.out.2.2 (j := j) hj)
              have R := Lib.hid hS.out.1
              have B := Lib.hid hS.out.2.1
              have HA : Hid (frmAt (sn t) L i = 1 + t.size + (blobs (L.take i)).length) := by show _ = _; unfold frmAt; rw [HSL.out]
              have hfit : 1 + t.size + (blobs (L.take i)).length + 8 + (L.getD i []).length ≤ N := by
                have e1 := frmAt_succ (sn t) hlt
                have e2 := frmAt_le (sn t) L (i + 1)
                rw [HNf.out] at e2
                have := HA.out
                omega
              rw [HA.out] at HSt
              have HE := Lib.hid (blobs_len hlt)
              clear hS hcw hrd
              obtain ⟨a, ha⟩ : ∃ a : Nat, 1 + t.size + (blobs (L.take i)).length = a := ⟨_, rfl⟩
              have ha' : (1 + (t.size : Int) + ((blobs (L.take i)).length : Int)) = (a : Int) := by omega
              rw [ha]at HSt hfit
              rw [ha']
              have HAA := Lib.hid ha
              clear ha ha'
              generalize hbb : L.getD i [] = bb at *
              clear hbb
              go_wp2_with fail
              refine (put64_any R.out (off := a) (len := N - a) (cap := N - a) (by omega) (Nat.le_refl _) (by omega) _).mono ?_
              rintro e w3 ⟨rfl, h3, k3⟩
              have R3 := Lib.hid h3
              have hB3 := B.out.trans ((k3.toBelow (B := w0.heap.size) B.out.size (by intro k hk; simp at hk; omega)))
              have B3 := Lib.hid hB3
              have hP : Hid (0 < bb.length → ∃ ad, r = some ad ∧ ∀ j, j < bb.length → w3.cell? (ad.add j) = some (.int .u8 (bb.getD j 0))) := by
                intro h0
                obtain ⟨q', c', e, rfl | ⟨b', o', rfl, hcc⟩⟩ := HRD.out.on hB3
                · simp at h0
                · simp only [Value.slice.injEq] at e
                  exact ⟨_, e.1, fun j hj => by rw [addr_add]; exact hcc j hj⟩
              have HN3 := Lib.hid (R3.out.lt)
              clear h3 k3 hB3 hc HRD R B
              by_cases haN : a + 8 = N
              all_goals
                go_wp2_with (with_reducible refine wpList_copy_rw rfl _ _ _ _ rfl 5 Tryd.underlying64 Tryd.size_u8 _ _ _ _ _ _ rfl rfl R3.out (a + 8) bb (Nat.min_eq_left (by omega)).symm (fun h0 => ⟨by first | rfl | omega, hP.out h0⟩) (by omega) ?_)
                intro w4 h4 k4
                have HN4 : Hid (RwK .u8 w4 w0.heap.size N 5 (cpf (put8 f a (bb.length : Int)) (a + 8) bb) ∧ Below w0.heap.size w0 w4 ∧ ∀ j, j < frmAt (sn t) L (i + 1) → cpf (put8 f a (bb.length : Int)) (a + 8) bb j = (frm (sn t) L).getD j 0) :=
                  ⟨by first | exact h4 | (rw [haN]; exact h4), B3.out.trans (k4.toBelow (B := w0.heap.size) B3.out.size (by intro k hk; simp at hk; omega)), HSt.out⟩
                clear h4 k4 hP
                go_wp2_with fail
                go_roundw
                case rel => exact ⟨i + 1, _, by go_num, by omega, by rw [HE.out]; have := HAA.out; congr 1; omega, HN4⟩
                case measure => simp [intOf]; omega
            · obtain rfl : i = L.length := by omega
              have HR := Lib.hid hS
              clear hS
              go_wp2_with fail
              go_ret
              refine ⟨rfl, HR.out.out.1.same (fun j hj => HR.out.out.2.2 j (by rw [frmAt_end, HNf.out]; exact hj)), HR.out.out.2.1⟩
  · have hmin : min (s.size : Int) 255 = 255 := by omega
    have hsz255 : (255 : Int) ≤ (s.size : Int) := by omega
    go_wp2_with fail
    clear hmin hc1 hc2 hsz255
    go_loopw [5, 22] (fun nv iv wr => ∃ i : Nat, iv = .int .i64 i ∧ i ≤ L.length ∧ nv = .int .i64 (1 + (t.size : Int) + ((blobs (L.take i)).length : Int)) ∧ wr = w) (fun _ iv _ => L.length - (intOf iv).toNat)
    case atStart => exact ⟨0, rfl, by omega, by simp [blobs], rfl⟩
    case round =>
      obtain ⟨i, rfl, hil, rfl, rfl⟩ := hrel
      have hbi := blobs_le L i
      by_cases hlt : i < L.length
      · obtain ⟨b, off, r, m, k, -, rfl, -, hc, rfl, -, -⟩ := HL.out.at hlt
        have hbs := blobs_len hlt
        have hbl2 := blobs_le L (i + 1)
        have HE := Lib.hid hbs
        have g1 : ((blobs (L.take i)).length : Int) + 8 + ((L.getD i []).length : Int) ≤ 140737488355328 := by omega
        clear hbs hbl2
        generalize hbb : (L.getD i []).length = lb at hc g1 HE ⊢
        go_wp2_with fail
        go_roundw
        case rel => exact ⟨i + 1, by go_num, by omega, by rw [HE.out]; congr 1; omega, trivial⟩
        case measure => simp [intOf]; omega
      · obtain rfl : i = L.length := by omega
        rw [List.take_length]
        have hNN : (1 + (t.size : Int) + ((blobs L).length : Int)) = (N : Int) := by have := HN.out; omega
        rw [hNN]
        clear hlt hNN hbi hil
        go_wp2_with (refine wpList_make_full _ rfl _ _ _ rfl 0 _ _ _ _ Tryd.underlying64 hi.out hz0.out hz1.out _ _ _ _ N rfl rfl rfl rfl ?b1 ?b2 ?b3 ?_)
        case b1 => rw [hz2.out]; omega
        case b2 => unfold maxLen; omega
        case b3 => omega
        intro w1 own1 grow1
        have hr1 : RwK .u8 w1 wr.heap.size N 5 (fun _ => 0) := rw_of_made own1
        have hk1 : Chg wr w1 [] := Chg.grown grow1 (by simp)
        have hzz : wr.heap.size < w1.heap.size := hr1.lt
        have c0 := hr1.cell 0 (by omega)
        have f0 := hr1.free 0
        have R1 := Lib.hid (hr1.store (j := 0) (by omega) (t.size : Int))
        have K1 := Lib.hid (((hk1.mono (T := [wr.heap.size]) (by simp)).setCell (p := ⟨wr.heap.size, 0, none⟩) (.inl (by simp)) (.int .u8 (t.size : Int))))
        clear own1 grow1 hr1 hk1
        by_cases hN1 : N = 1
        · subst hN1
          have hL0 : L = [] := by have := blobs_many L; have := HN.out; exact List.eq_nil_of_length_eq_zero (by omega)
          subst hL0
          go_wp2_with (with_reducible refine wpList_copy_str rfl _ _ _ _ rfl 5 Tryd.underlying64 Tryd.size_u8 _ _ _ t rfl rfl R1.out 1 (by omega) (by intro h; first | rfl | omega) (by omega) ?_)
          intro w2 h2 k2
          have HR2 := Lib.hid h2
          have K2 := Lib.hid (K1.out.trans k2 (fun _ h _ => h))
          clear h2 k2 c0 f0 K1 R1
          go_wp2_with fail
          refine wp_loop_rounds 1 ?_
          rw [rounds_succ]
          go_wp2_with fail
          go_ret
          refine ⟨rfl, HR2.out.same (fun j hj => ?_), K2.out.toBelow (Nat.le_refl _) (by intro k hk; simp at hk; omega)⟩
          have := frm_start (sn t) [] (fun _ => 0) (j := j) (by unfold frmAt; omega)
          rw [HSL.out] at this
          exact this
        · go_wp2_with (with_reducible refine wpList_copy_str rfl _ _ _ _ rfl 5 Tryd.underlying64 Tryd.size_u8 _ _ _ t rfl rfl R1.out 1 (by omega) (by intro h; first | rfl | omega) (by omega) ?_)
          intro w2 h2 k2
          have HI : Hid (RwK .u8 w2 wr.heap.size N 5 (cpf (updK (fun _ => 0) 0 (t.size : Int)) 1 (sn t)) ∧ Below wr.heap.size wr w2 ∧ ∀ j, j < frmAt (sn t) L 0 → cpf (updK (fun _ => 0) 0 (t.size : Int)) 1 (sn t) j = (frm (sn t) L).getD j 0) :=
            ⟨h2, (K1.out.trans k2 (fun _ h _ => h)).toBelow (Nat.le_refl _) (by intro k hk; simp at hk; omega), fun j hj => by have := frm_start (sn t) L (fun _ => 0) hj; rw [HSL.out] at this; exact this⟩
          clear h2 k2 c0 f0 K1 R1
          obtain ⟨w0, rfl⟩ : ∃ w0 : World, w0 = wr := ⟨_, rfl⟩
          go_wp2_with fail
          go_loopw [9, 46] (fun av iv wr => ∃ (i : Nat) (f : Nat → Int), iv = .int .i64 i ∧ i ≤ L.length ∧ av = .int .i64 (1 + (t.size : Int) + ((blobs (L.take i)).length : Int)) ∧ Hid (RwK .u8 wr w0.heap.size N 5 f ∧ Below w0.heap.size w0 wr ∧ ∀ j, j < frmAt (sn t) L i → f j = (frm (sn t) L).getD j 0)) (fun _ iv _ => L.length - (intOf iv).toNat)
          case atStart => exact ⟨0, _, rfl, by omega, by simp [blobs], HI⟩
          case round =>
            clear HI
            obtain ⟨i, f, rfl, hil, rfl, hS⟩ := hrel
            by_cases hlt : i < L.length
            · obtain ⟨b, off, r, m, k, -, rfl, -, hcw, rfl, hrd, -⟩ := HL.out.at hlt
              have hc : wr.cell? ⟨b, off + i, none⟩ = some (.slice r (L.getD i []).length k) := by
                rw [World.cell?_of_block (w := w0) (hS.out.2.1.block b (lt_of_cell hcw))]; exact hcw
              have HRD := Lib.hid hrd
              have HSt := Lib.hid (fun j hj => frm_step (sn t) hlt hS.out.2.2 (j := j) hj)
              have R := Lib.hid hS.out.1
              have B := Lib.hid hS.out.2.1
              have HA : Hid (frmAt (sn t) L i = 1 + t.size + (blobs (L.take i)).length) := by show _ = _; unfold frmAt; rw [HSL.out]
              have hfit : 1 + t.size + (blobs (L.take i)).length + 8 + (L.getD i []).length ≤ N := by
                have e1 := frmAt_succ (sn t) hlt
                have e2 := frmAt_le (sn t) L (i + 1)
                rw [HNf.out] at e2
                have := HA.out
                omega
              rw [HA.out] at HSt
              have HE := Lib.hid (blobs_len hlt)
              clear hS hcw hrd
              obtain ⟨a, ha⟩ : ∃ a : Nat, 1 + t.size + (blobs (L.take i)).length = a := ⟨_, rfl⟩
              have ha' : (1 + (t.size : Int) + ((blobs (L.take i)).length : Int)) = (a : Int) := by omega
              rw [ha]at HSt hfit
              rw [ha']
              have HAA := Lib.hid ha
              clear ha ha'
              generalize hbb : L.getD i [] = bb at *
              clear hbb
              go_wp2_with fail
              refine (put64_any R.out (off := a) (len := N - a) (cap := N - a) (by omega) (Nat.le_refl _) (by omega) _).mono ?_
              rintro e w3 ⟨rfl, h3, k3⟩
              have R3 := Lib.hid h3
              have hB3 := B.out.trans ((k3.toBelow (B := w0.heap.size) B.out.size (by intro k hk; simp at hk; omega)))
              have B3 := Lib.hid hB3
              have hP : Hid (0 < bb.length → ∃ ad, r = some ad ∧ ∀ j, j < bb.length → w3.cell? (ad.add j) = some (.int .u8 (bb.getD j 0))) := by
                intro h0
                obtain ⟨q', c', e, rfl | ⟨b', o', rfl, hcc⟩⟩ := HRD.out.on hB3
                · simp at h0
                · simp only [Value.slice.injEq] at e
                  exact ⟨_, e.1, fun j hj => by rw [addr_add]; exact hcc j hj⟩
              have HN3 := Lib.hid (R3.out.lt)
              clear h3 k3 hB3 hc HRD R B
              by_cases haN : a + 8 = N
              all_goals
                go_wp2_with (with_reducible refine wpList_copy_rw rfl _ _ _ _ rfl 5 Tryd.underlying64 Tryd.size_u8 _ _ _ _ _ _ rfl rfl R3.out (a + 8) bb (Nat.min_eq_left (by omega)).symm (fun h0 => ⟨by first | rfl | omega, hP.out h0⟩) (by omega) ?_)
                intro w4 h4 k4
                have HN4 : Hid (RwK .u8 w4 w0.heap.size N 5 (cpf (put8 f a (bb.length : Int)) (a + 8) bb) ∧ Below w0.heap.size w0 w4 ∧ ∀ j, j < frmAt (sn t) L (i + 1) → cpf (put8 f a (bb.length : Int)) (a + 8) bb j = (frm (sn t) L).getD j 0) :=
                  ⟨by first | exact h4 | (rw [haN]; exact h4), B3.out.trans (k4.toBelow (B := w0.heap.size) B3.out.size (by intro k hk; simp at hk; omega)), HSt.out⟩
                clear h4 k4 hP
                go_wp2_with fail
                go_roundw
                case rel => exact ⟨i + 1, _, by go_num, by omega, by rw [HE.out]; have := HAA.out; congr 1; omega, HN4⟩
                case measure => simp [intOf]; omega
            · obtain rfl : i = L.length := by omega
              have HR := Lib.hid hS
              clear hS
              go_wp2_with fail
              go_ret
              refine ⟨rfl, HR.out.out.1.same (fun j hj => HR.out.out.2.2 j (by rw [frmAt_end, HNf.out]; exact hj)), HR.out.out.2.1⟩
theorem Frame_any {w : World} {s : ByteArray} {v : Value} {L : List (List Int)} (hL : RdL w v L []) (h255 : s.size ≤ 255) (hn : (frm (sn s) L).length ≤ 140737488355328) :
    Calls Tryd.prog 76 #[.string s, v] w fun e w' => e = .returned (.slice (some ⟨w.heap.size, 0, none⟩) (frm (sn s) L).length (frm (sn s) L).length) ∧
      RwK .u8 w' w.heap.size (frm (sn s) L).length 5 (fun i => (frm (sn s) L).getD i 0) ∧ Below w.heap.size w w' :=
  Frame_cut hL (by unfold maxLen; omega) (cut_small h255) hn
end Go.Proofs.YtjgfjmkfcippcaaDoor
