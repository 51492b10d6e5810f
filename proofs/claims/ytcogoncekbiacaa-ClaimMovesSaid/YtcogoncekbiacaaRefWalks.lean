/-
  Package claim, the document's side: the walks of Right, Middle, Last, Post, Open.
-/
import Derived.Test.YtcogoncekbiacaaRefSeg
namespace Go.Proofs.Ytcogoncekbiacaa
open Go.RowKit

theorem refRight_any {s : Seg} (hs : s.ok) (w : World) : Calls Try.prog 18 #[.agg s.row.toArray] w fun e w' => e = .returned (.bool s.right) ∧ Below w.heap.size w w' := by
  have S := SegAt.new w 25 s
  obtain ⟨c0, c1, c98, -, -, -, cm⟩ := S.facts hs
  have hm := hs.m
  have hlo := hs.lo1
  have hhi := hs.hi2
  go_enter Try.func18, Try.ntmps18
  go_wp2_with fail
  all_goals go_ret
  all_goals refine ⟨congrArg (fun x => Ending.returned (.bool x)) (?_ : _ = s.right), (Below.refl _ _).alloc (by simp) _⟩
  all_goals (clear c0 c1 c98 cm S; unfold Seg.right; cases hp : s.p <;> simp_all <;> omega)
theorem refMiddle_any {s : Seg} (hs : s.ok) (w : World) : Calls Try.prog 20 #[.agg s.row.toArray] w fun e w' => e = .returned (.int .i64 s.middle) ∧ Below w.heap.size w w' := by
  have S := SegAt.new w 25 s
  obtain ⟨-, -, -, cw, -, -, -⟩ := S.facts hs
  have hf := hs.f
  have ht := hs.t
  have hm := hs.m
  go_enter Try.func20, Try.ntmps20
  go_wp2_with fail
  refine (refRight_any hs _).mono ?_
  rintro e w1 ⟨rfl, hb⟩
  obtain ⟨c0, c1, -, -, -, -, -⟩ := (S.on hb).facts hs
  have hb' : Below w.heap.size w w1 := ((Below.refl _ _).alloc (by simp) _).trans (hb.mono (by simp))
  clear S cw hb
  cases hr : s.right
  · go_wp2_with fail
    go_ret
    exact ⟨congrArg (fun x => Ending.returned (.int .i64 x)) (by simp [Seg.middle, hr]), hb'⟩
  · have hl := Seg.right_lo hr
    go_wp2_with fail
    go_ret
    exact ⟨congrArg (fun x => Ending.returned (.int .i64 x)) (by simp [Seg.middle, hr]), hb'⟩

theorem refLast_any {s : Seg} (hs : s.ok) (w : World) : Calls Try.prog 22 #[.agg s.row.toArray] w fun e w' => e = .returned (.bool s.last) ∧ Below w.heap.size w w' := by
  have S := SegAt.new w 25 s
  obtain ⟨-, -, -, cw, -, -, -⟩ := S.facts hs
  have hf := hs.f
  have ht := hs.t
  have hm := hs.m
  go_enter Try.func22, Try.ntmps22
  go_wp2_with fail
  refine (refRight_any hs _).mono ?_
  rintro e w1 ⟨rfl, hb⟩
  obtain ⟨c0, c1, -, -, -, -, -⟩ := (S.on hb).facts hs
  have hb' : Below w.heap.size w w1 := ((Below.refl _ _).alloc (by simp) _).trans (hb.mono (by simp))
  clear S cw hb
  cases hr : s.right
  · go_wp2_with fail
    go_ret
    exact ⟨congrArg (fun x => Ending.returned (.bool x)) (by simp [Seg.last, hr]), hb'⟩
  · have hl := Seg.right_lo hr
    go_wp2_with fail
    go_ret
    exact ⟨congrArg (fun x => Ending.returned (.bool x)) (by simp [Seg.last, hr]), hb'⟩
theorem refPost_any {s : Seg} (hs : s.ok) {F : List Int} (hF : F.length = 32) (w : World) : Calls Try.prog 12 #[.agg s.row.toArray, .agg (hc F).toArray] w
    fun e w' => e = .returned (.tuple #[.agg (s.post F).1.row.toArray, .int .i64 (s.post F).2]) ∧ Below w.heap.size w w' := by
  have S := ((SegAt.new w 25 s).alloc (.cells (hc F).toArray 23)).alloc (.cells seg0.row.toArray 25)
  have H := (HashAt.new (w.alloc (.cells s.row.toArray 25)) F).alloc (.cells seg0.row.toArray 25)
  have R := SegAt.new ((w.alloc (.cells s.row.toArray 25)).alloc (.cells (hc F).toArray 23)) 25 seg0
  have B : Below w.heap.size w (((w.alloc (.cells s.row.toArray 25)).alloc (.cells (hc F).toArray 23)).alloc (.cells seg0.row.toArray 25)) := by
    repeat (first | with_reducible exact Below.refl _ _ | with_reducible refine Below.alloc ?_ (by simp; try omega) _)
  simp only [World.size_alloc] at H R
  obtain ⟨-, -, -, cw, -, -, -⟩ := S.facts hs
  have hf := hs.f
  have ht := hs.t
  have hm := hs.m
  have zf := seg0_ok.f
  have zt := seg0_ok.t
  have zm := seg0_ok.m
  go_enter Try.func12, Try.ntmps12
  go_wp2_with fail
  generalize ((w.alloc (.cells s.row.toArray 25)).alloc (.cells (hc F).toArray 23)).alloc (.cells seg0.row.toArray 25) = wa at S H R B cw ⊢
  refine (refRight_any hs _).mono ?_
  rintro e w1 ⟨rfl, hb⟩
  have S1 := S.on hb
  have H1 := H.on hb
  have R1 := R.on hb
  have B1 := B.trans (hb.mono (by have := S.lt; omega))
  clear S H R B cw hb
  obtain ⟨-, -, c98, cw, -, -, -⟩ := S1.facts hs
  have ch := H1.row hF
  have rt := R1.there seg0_ok (o := 0) (n := 99) (by omega)
  cases hr : s.right
  · have R2 := R1.setAll seg0_ok seg0_ok
    have B2 := below_setCells' (w.heap.size + 1 + 1) (by omega) seg0.row 0 B1
    have cr := R2.whole seg0_ok
    clear S1 H1 R1 R2 B1
    go_wp2_with fail
    rw [show s.post F = (seg0, 1) by simp [Seg.post, hr]]
    refine bodyPost_ret (v := .tuple #[.agg seg0.row.toArray, .int .i64 1]) (by simp [results, Try.results12, go_sem, cr, zf, zt, zm]) rfl ⟨rfl, B2⟩
  · cases hp : s.p
    · rw [hp] at c98
      go_wp2_with fail
      refine (refLast_any hs _).mono ?_
      rintro e w2 ⟨rfl, hb⟩
      have S2 := S1.on hb
      have H2 := H1.on hb
      have R2 := R1.on hb
      have B2 := B1.trans (hb.mono (by have := S1.lt; omega))
      clear S1 H1 R1 B1 hb cw ch rt c98
      have ch := H2.row hF
      have tm := S2.there hs (o := 66) (n := 32) (by omega)
      cases hl : s.last
      · have S3 := S2.setMid hs hF
        have hs3 : Seg.ok { s with m := F } := ⟨hs.lo1, hs.lo2, hs.hi1, hs.hi2, hs.f, hs.t, hF⟩
        have c3 := S3.p hs3
        have f3 := S3.free 98
        have S4 := S3.setP hs3 true
        have hs4 : Seg.ok { s with m := F, p := true } := ⟨hs.lo1, hs.lo2, hs.hi1, hs.hi2, hs.f, hs.t, hF⟩
        have c4 := S4.whole hs4
        have R4 := (R2.others (c := w.heap.size) (by omega) 66 (hc F)).other (a := ⟨w.heap.size, 98, none⟩) (by simp; omega) (.bool true)
        have t4 := R4.there seg0_ok (o := 0) (n := 99) (by omega)
        have R5 := R4.setAll seg0_ok hs4
        have c5 := R5.whole hs4
        have B5 := below_setCells' (w.heap.size + 1 + 1) (by omega) (Seg.row { s with m := F, p := true }) 0 ((below_setCells' w.heap.size (Nat.le_refl _) (hc F) 66 B2).setCell (p := ⟨w.heap.size, 98, none⟩) (Nat.le_refl _) (.bool true))
        clear S2 S3 S4 R2 R4 R5 H2 B2
        have e5 : s.post F = ({ s with m := F, p := true }, 0) := by simp [Seg.post, hr, hp, hl]
        have hE := Lib.hid e5
        generalize hg : ({ s with m := F, p := true } : Seg) = s' at *
        have sf : s'.f.length = 32 := hs4.f
        have st : s'.t.length = 32 := hs4.t
        have sm : s'.m.length = 32 := hs4.m
        clear e5
        go_wp2_with fail
        rw [hE.out]
        refine bodyPost_ret (v := .tuple #[.agg s'.row.toArray, .int .i64 0]) (by simp [results, Try.results12, go_sem, c5, sf, st, sm]) rfl ⟨rfl, B5⟩
      · have rt := R2.there seg0_ok (o := 0) (n := 99) (by omega)
        have R3 := R2.setAll seg0_ok seg0_ok
        have B3 := below_setCells' (w.heap.size + 1 + 1) (by omega) seg0.row 0 B2
        have cr := R3.whole seg0_ok
        clear S2 H2 R2 R3 B2
        go_wp2_with fail
        rw [show s.post F = (seg0, 52) by simp [Seg.post, hr, hl]]
        refine bodyPost_ret (v := .tuple #[.agg seg0.row.toArray, .int .i64 52]) (by simp [results, Try.results12, go_sem, cr, zf, zt, zm]) rfl ⟨rfl, B3⟩
    · rw [hp] at c98
      have R2 := R1.setAll seg0_ok seg0_ok
      have B2 := below_setCells' (w.heap.size + 1 + 1) (by omega) seg0.row 0 B1
      have cr := R2.whole seg0_ok
      clear S1 H1 R1 R2 B1
      go_wp2_with fail
      rw [show s.post F = (seg0, 52) by simp [Seg.post, hr, hp]]
      refine bodyPost_ret (v := .tuple #[.agg seg0.row.toArray, .int .i64 52]) (by simp [results, Try.results12, go_sem, cr, zf, zt, zm]) rfl ⟨rfl, B2⟩
theorem refOpen_any {n : Int} {F G : List Int} (hF : F.length = 32) (hG : G.length = 32) (w : World) : Calls Try.prog 10 #[.int .i64 n, .agg (hc F).toArray, .agg (hc G).toArray] w
    fun e w' => e = .returned (.tuple #[.agg (Seg.opened n F G).1.row.toArray, .int .i64 (Seg.opened n F G).2]) ∧ Below w.heap.size w w' := by
  have H1 := ((HashAt.new w F).alloc (.cells (hc G).toArray 23)).alloc (.cells seg0.row.toArray 25)
  have H2 := (HashAt.new (w.alloc (.cells (hc F).toArray 23)) G).alloc (.cells seg0.row.toArray 25)
  have R := SegAt.new ((w.alloc (.cells (hc F).toArray 23)).alloc (.cells (hc G).toArray 23)) 25 seg0
  have B : Below w.heap.size w (((w.alloc (.cells (hc F).toArray 23)).alloc (.cells (hc G).toArray 23)).alloc (.cells seg0.row.toArray 25)) := by
    repeat (first | with_reducible exact Below.refl _ _ | with_reducible refine Below.alloc ?_ (by simp; try omega) _)
  simp only [World.size_alloc] at H2 R
  have zf := seg0_ok.f
  have zt := seg0_ok.t
  have zm := seg0_ok.m
  have zl := zero32_len
  have c1 := H1.row hF
  have c2 := H2.row hG
  have rt := R.there seg0_ok (o := 0) (n := 99) (by omega)
  have bh : w.heap.size ≤ w.heap.size + 1 + 1 := by omega
  by_cases hn : n < 1 ∨ 4096 < n
  · have E : Seg.opened n F G = (seg0, 1) := if_pos hn
    have R2 := R.setAll seg0_ok seg0_ok
    have B2 := below_setCells' (w.heap.size + 1 + 1) bh seg0.row 0 B
    have cr := R2.whole seg0_ok
    clear H1 H2 R R2 B
    rw [E]
    go_enter Try.func10, Try.ntmps10
    rcases Int.lt_or_le n 1 with h1 | h1
    · go_wp2_with fail
      refine bodyPost_ret (v := .tuple #[.agg seg0.row.toArray, .int .i64 1]) (by simp [results, Try.results10, go_sem, cr, zf, zt, zm]) rfl ⟨rfl, B2⟩
    · have h2 : 4096 < n := by omega
      go_wp2_with fail
      refine bodyPost_ret (v := .tuple #[.agg seg0.row.toArray, .int .i64 1]) (by simp [results, Try.results10, go_sem, cr, zf, zt, zm]) rfl ⟨rfl, B2⟩
  · have E : Seg.opened n F G = (⟨0, n, F, G, zero32, false⟩, 0) := if_neg hn
    have hs : Seg.ok ⟨0, n, F, G, zero32, false⟩ := ⟨by show _ ≤ (0 : Int); omega, by show (0 : Int) < _; omega, by show _ ≤ n; omega, by show n < _; omega, hF, hG, zl⟩
    have R2 := R.setAll seg0_ok hs
    have B2 := below_setCells' (w.heap.size + 1 + 1) bh (Seg.row ⟨0, n, F, G, zero32, false⟩) 0 B
    have cr := R2.whole hs
    clear H1 H2 R R2 B
    rw [E]
    have h1 : 1 ≤ n := by omega
    have h2 : n ≤ 4096 := by omega
    clear E hn hs
    go_enter Try.func10, Try.ntmps10
    go_wp2_with fail
    refine bodyPost_ret (v := .tuple #[.agg (Seg.row ⟨0, n, F, G, zero32, false⟩).toArray, .int .i64 0]) (by simp [results, Try.results10, go_sem, cr, hF, hG, zl]) rfl ⟨rfl, B2⟩

end Go.Proofs.Ytcogoncekbiacaa
