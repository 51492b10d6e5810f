/-
  The walk of package claim: Open; of the law's own: num, Own.
-/
import Derived.Test.YtkdhhdbgngegfaaGreatDoorBuild
namespace Go.Proofs.YtkdhhdbgngegfaaGreatDoor
open Go.RowKit

def Seg.opened (n : Int) (F G : List Int) : Seg × Int := if n < 1 ∨ 4096 < n then (seg0, 1) else (⟨0, n, F, G, zero32, false⟩, 0)

theorem Open_any {n : Int} {F G : List Int} (hF : F.length = 32) (hG : G.length = 32) (w : World) : Calls Tryz.prog 37 #[.int .i64 n, .agg (hc F).toArray, .agg (hc G).toArray] w
    fun e w' => e = .returned (.tuple #[.agg (Seg.opened n F G).1.row.toArray, .int .i64 (Seg.opened n F G).2]) ∧ Below w.heap.size w w' := by
  have H1 := ((HashAt.new w F).alloc (.cells (hc G).toArray 23)).alloc (.cells seg0.row.toArray 29)
  have H2 := (HashAt.new (w.alloc (.cells (hc F).toArray 23)) G).alloc (.cells seg0.row.toArray 29)
  have R := SegAt.new ((w.alloc (.cells (hc F).toArray 23)).alloc (.cells (hc G).toArray 23)) 29 seg0
  have B : Below w.heap.size w (((w.alloc (.cells (hc F).toArray 23)).alloc (.cells (hc G).toArray 23)).alloc (.cells seg0.row.toArray 29)) := by
    repeat (first | with_reducible exact Below.refl _ _ | with_reducible refine Below.alloc ?_ (by simp; try omega) _)
  simp only [World.size_alloc] at H2 R
  have zf := seg0_ok.f
  have zt := seg0_ok.t
  have zm := seg0_ok.m
  have zl := zero32_len
  have c1 := H1.row hF
  have c2 := H2.row hG
  have rt := R.there seg0_ok (o := 0) (n := 99) (by omega)
  have bh : w.heap.size ≤ w.heap.size + 1 + 1 := by omega
  by_cases hn : n < 1 ∨ 4096 < n
  · have E : Seg.opened n F G = (seg0, 1) := if_pos hn
    have R2 := R.setAll seg0_ok seg0_ok
    have B2 := below_setCells' (w.heap.size + 1 + 1) bh seg0.row 0 B
    have cr := R2.whole seg0_ok
    clear H1 H2 R R2 B
    rw [E]
    go_enter Tryz.func37, Tryz.ntmps37
    rcases Int.lt_or_le n 1 with h1 | h1
    · go_wp2_with fail
      refine bodyPost_ret (v := .tuple #[.agg seg0.row.toArray, .int .i64 1]) (by simp [results, Tryz.results37, go_sem, cr, zf, zt, zm]) rfl ⟨rfl, B2⟩
    · have h2 : 4096 < n := by omega
      go_wp2_with fail
      refine bodyPost_ret (v := .tuple #[.agg seg0.row.toArray, .int .i64 1]) (by simp [results, Tryz.results37, go_sem, cr, zf, zt, zm]) rfl ⟨rfl, B2⟩
  · have E : Seg.opened n F G = (⟨0, n, F, G, zero32, false⟩, 0) := if_neg hn
    have hs : Seg.ok ⟨0, n, F, G, zero32, false⟩ := ⟨by show _ ≤ (0 : Int); omega, by show (0 : Int) < _; omega, by show _ ≤ n; omega, by show n < _; omega, hF, hG, zl⟩
    have R2 := R.setAll seg0_ok hs
    have B2 := below_setCells' (w.heap.size + 1 + 1) bh (Seg.row ⟨0, n, F, G, zero32, false⟩) 0 B
    have cr := R2.whole hs
    clear H1 H2 R R2 B
    rw [E]
    have h1 : 1 ≤ n := by omega
    have h2 : n ≤ 4096 := by omega
    clear E hn hs
    go_enter Tryz.func37, Tryz.ntmps37
    go_wp2_with fail
    refine bodyPost_ret (v := .tuple #[.agg (Seg.row ⟨0, n, F, G, zero32, false⟩).toArray, .int .i64 0]) (by simp [results, Tryz.results37, go_sem, cr, hF, hG, zl]) rfl ⟨rfl, B2⟩

theorem num_any (c : Int) (w : World) : Calls Tryz.prog 10 #[.int .i64 c] w fun e w' => e = .returned (.int .i64 c) ∧ w' = w := by
  go_enter Tryz.func10, Tryz.ntmps10
  go_wp2_with fail
  go_ret
  exact ⟨rfl, rfl⟩
end Go.Proofs.YtkdhhdbgngegfaaGreatDoor
