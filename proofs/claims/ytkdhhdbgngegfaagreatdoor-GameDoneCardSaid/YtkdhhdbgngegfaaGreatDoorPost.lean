/-
  The walk of package claim: Post.
-/
import Derived.Test.YtkdhhdbgngegfaaGreatDoorMid
namespace Go.Proofs.YtkdhhdbgngegfaaGreatDoor
open Go.RowKit

def Seg.post (s : Seg) (F : List Int) : Seg × Int := bif s.right then (bif s.p || s.last then (seg0, 52) else ({ s with m := F, p := true }, 0)) else (seg0, 1)

theorem seg0_ok : seg0.ok := ⟨by decide, by decide, by decide, by decide, rfl, rfl, rfl⟩

theorem Post_any {s : Seg} (hs : s.ok) {F : List Int} (hF : F.length = 32) (w : World) : Calls Tryz.prog 15 #[.agg s.row.toArray, .agg (hc F).toArray] w
    fun e w' => e = .returned (.tuple #[.agg (s.post F).1.row.toArray, .int .i64 (s.post F).2]) ∧ Below w.heap.size w w' := by
  have S := ((SegAt.new w 29 s).alloc (.cells (hc F).toArray 23)).alloc (.cells seg0.row.toArray 29)
  have H := (HashAt.new (w.alloc (.cells s.row.toArray 29)) F).alloc (.cells seg0.row.toArray 29)
  have R := SegAt.new ((w.alloc (.cells s.row.toArray 29)).alloc (.cells (hc F).toArray 23)) 29 seg0
  have B : Below w.heap.size w (((w.alloc (.cells s.row.toArray 29)).alloc (.cells (hc F).toArray 23)).alloc (.cells seg0.row.toArray 29)) := by
    repeat (first | with_reducible exact Below.refl _ _ | with_reducible refine Below.alloc ?_ (by simp; try omega) _)
  simp only [World.size_alloc] at H R
  obtain ⟨-, -, -, cw, -, -, -⟩ := S.facts hs
  have hf := hs.f
  have ht := hs.t
  have hm := hs.m
  have zf := seg0_ok.f
  have zt := seg0_ok.t
  have zm := seg0_ok.m
  go_enter Tryz.func15, Tryz.ntmps15
  go_wp2_with fail
  generalize ((w.alloc (.cells s.row.toArray 29)).alloc (.cells (hc F).toArray 23)).alloc (.cells seg0.row.toArray 29) = wa at S H R B cw ⊢
  refine (Right_any hs _).mono ?_
  rintro e w1 ⟨rfl, hb⟩
  have S1 := S.on hb
  have H1 := H.on hb
  have R1 := R.on hb
  have B1 := B.trans (hb.mono (by have := S.lt; omega))
  clear S H R B cw hb
  obtain ⟨-, -, c98, cw, -, -, -⟩ := S1.facts hs
  have ch := H1.row hF
  have rt := R1.there seg0_ok (o := 0) (n := 99) (by omega)
  cases hr : s.right
  · have R2 := R1.setAll seg0_ok seg0_ok
    have B2 := below_setCells' (w.heap.size + 1 + 1) (by omega) seg0.row 0 B1
    have cr := R2.whole seg0_ok
    clear S1 H1 R1 R2 B1
    go_wp2_with fail
    rw [show s.post F = (seg0, 1) by simp [Seg.post, hr]]
    refine bodyPost_ret (v := .tuple #[.agg seg0.row.toArray, .int .i64 1]) (by simp [results, Tryz.results15, go_sem, cr, zf, zt, zm]) rfl ⟨rfl, B2⟩
  · cases hp : s.p
    · rw [hp] at c98
      go_wp2_with fail
      refine (Last_any hs _).mono ?_
      rintro e w2 ⟨rfl, hb⟩
      have S2 := S1.on hb
      have H2 := H1.on hb
      have R2 := R1.on hb
      have B2 := B1.trans (hb.mono (by have := S1.lt; omega))
      clear S1 H1 R1 B1 hb cw ch rt c98
      have ch := H2.row hF
      have tm := S2.there hs (o := 66) (n := 32) (by omega)
      cases hl : s.last
      · have S3 := S2.setMid hs hF
        have hs3 : Seg.ok { s with m := F } := ⟨hs.lo1, hs.lo2, hs.hi1, hs.hi2, hs.f, hs.t, hF⟩
        have c3 := S3.p hs3
        have f3 := S3.free 98
        have S4 := S3.setP hs3 true
        have hs4 : Seg.ok { s with m := F, p := true } := ⟨hs.lo1, hs.lo2, hs.hi1, hs.hi2, hs.f, hs.t, hF⟩
        have c4 := S4.whole hs4
        have R4 := (R2.others (c := w.heap.size) (by omega) 66 (hc F)).other (a := ⟨w.heap.size, 98, none⟩) (by simp; omega) (.bool true)
        have t4 := R4.there seg0_ok (o := 0) (n := 99) (by omega)
        have R5 := R4.setAll seg0_ok hs4
        have c5 := R5.whole hs4
        have B5 := below_setCells' (w.heap.size + 1 + 1) (by omega) (Seg.row { s with m := F, p := true }) 0 ((below_setCells' w.heap.size (Nat.le_refl _) (hc F) 66 B2).setCell (p := ⟨w.heap.size, 98, none⟩) (Nat.le_refl _) (.bool true))
        clear S2 S3 S4 R2 R4 R5 H2 B2
        have e5 : s.post F = ({ s with m := F, p := true }, 0) := by simp [Seg.post, hr, hp, hl]
        have hE := Lib.hid e5
        generalize hg : ({ s with m := F, p := true } : Seg) = s' at *
        have sf : s'.f.length = 32 := hs4.f
        have st : s'.t.length = 32 := hs4.t
        have sm : s'.m.length = 32 := hs4.m
        clear e5
        go_wp2_with fail
        rw [hE.out]
        refine bodyPost_ret (v := .tuple #[.agg s'.row.toArray, .int .i64 0]) (by simp [results, Tryz.results15, go_sem, c5, sf, st, sm]) rfl ⟨rfl, B5⟩
      · have rt := R2.there seg0_ok (o := 0) (n := 99) (by omega)
        have R3 := R2.setAll seg0_ok seg0_ok
        have B3 := below_setCells' (w.heap.size + 1 + 1) (by omega) seg0.row 0 B2
        have cr := R3.whole seg0_ok
        clear S2 H2 R2 R3 B2
        go_wp2_with fail
        rw [show s.post F = (seg0, 52) by simp [Seg.post, hr, hl]]
        refine bodyPost_ret (v := .tuple #[.agg seg0.row.toArray, .int .i64 52]) (by simp [results, Tryz.results15, go_sem, cr, zf, zt, zm]) rfl ⟨rfl, B3⟩
    · rw [hp] at c98
      have R2 := R1.setAll seg0_ok seg0_ok
      have B2 := below_setCells' (w.heap.size + 1 + 1) (by omega) seg0.row 0 B1
      have cr := R2.whole seg0_ok
      clear S1 H1 R1 R2 B1
      go_wp2_with fail
      rw [show s.post F = (seg0, 52) by simp [Seg.post, hr, hp]]
      refine bodyPost_ret (v := .tuple #[.agg seg0.row.toArray, .int .i64 52]) (by simp [results, Tryz.results15, go_sem, cr, zf, zt, zm]) rfl ⟨rfl, B2⟩
end Go.Proofs.YtkdhhdbgngegfaaGreatDoor
