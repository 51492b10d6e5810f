/-
  A trace: a slice of hashes. The walks of package claim: Honest, Judge.
-/
import Derived.Test.YtcogoncekbiacaaOwn
import Derived.Test.YtcogoncekbiacaaChoose
namespace Go.Proofs.Ytcogoncekbiacaa
open Go.RowKit

theorem rowOf_below {w w' : World} {B b : Nat} (h : Below B w w') (hb : b < B) (o n : Nat) : rowOf w' b o n = rowOf w b o n := by
  unfold rowOf
  rw [h.block b hb]

/-- p leads to n hashes, T 0, T 1 and so on. -/
def TrP (w : World) (p : Option Addr) (n : Nat) (T : Nat → List Int) : Prop := ∀ i, i < n → ∃ b o, p = some ⟨b, o, none⟩ ∧ b < w.heap.size ∧ (T i).length = 32 ∧ rowOf w b (o + i * 32) 32 = hc (T i)
theorem TrP.on {w w' : World} {p : Option Addr} {n : Nat} {T : Nat → List Int} (h : TrP w p n T) (hb : Below w.heap.size w w') : TrP w' p n T := fun i hi => by
  obtain ⟨b, o, hp, hlt, hl, hr⟩ := h i hi
  exact ⟨b, o, hp, by have := hb.size; omega, hl, by rw [rowOf_below hb hlt]; exact hr⟩
theorem TrP.alloc {w : World} {p : Option Addr} {n : Nat} {T : Nat → List Int} (h : TrP w p n T) (ob : Obj) : TrP (w.alloc ob) p n T :=
  h.on ((Below.refl _ _).alloc (Nat.le_refl _) ob)

theorem HashAt.there {w : World} {b : Nat} {F : List Int} (h : HashAt w b F) (hF : F.length = 32) : w.there b 0 32 := fun j hj => by
  refine ⟨?_, Joins.unfrozen_of_block h _⟩
  rw [cell_of_row _ _ _ _ _ _ h]
  simp [hc_len, hF, hj]
theorem HashAt.set {w : World} {b : Nat} {F G : List Int} (h : HashAt w b F) (hF : F.length = 32) (hG : G.length = 32) : HashAt (w.setCells b 0 (hc G)) b G := by
  have := setCells_block (b := b) (t := 23) (fr := (0, 0)) (hc G) (o := 0) (w := w) (pre := []) (mid := hc F) (post := []) (by simpa [HashAt] using h) rfl (by rw [hc_len, hc_len, hF, hG])
  simpa [HashAt] using this

def Seg.honest (s : Seg) (n : Nat) (T : Nat → List Int) : List Int × Bool :=
  bif !s.right || s.p || s.last || decide ((n : Int) ≤ s.middle) then (zero32, false) else (T s.middle.toNat, true)

theorem Seg.middle_lo {s : Seg} (h : s.right = true) : 0 ≤ s.middle ∧ s.middle ≤ 4096 := by
  have := Seg.right_lo h
  simp only [Seg.middle, h, cond_true]; omega

set_option maxHeartbeats 1000000 in
theorem Honest_any {s : Seg} (hs : s.ok) {p : Option Addr} {n cap : Nat} {T : Nat → List Int} (w : World) (hT : TrP w p n T) : Calls Try.prog 26 #[.slice p n cap, .agg s.row.toArray] w
    fun e w' => e = .returned (.tuple #[.agg (hc (s.honest n T).1).toArray, .bool (s.honest n T).2]) ∧ Below w.heap.size w w' := by
  have S := (SegAt.new w 26 s).alloc (.cells (hc zero32).toArray 23)
  have R := HashAt.new (w.alloc (.cells s.row.toArray 26)) zero32
  have B : Below w.heap.size w ((w.alloc (.cells s.row.toArray 26)).alloc (.cells (hc zero32).toArray 23)) := by
    repeat (first | with_reducible exact Below.refl _ _ | with_reducible refine Below.alloc ?_ (by simp; try omega) _)
  have U := (hT.alloc (.cells s.row.toArray 26)).alloc (.cells (hc zero32).toArray 23)
  simp only [World.size_alloc] at R
  have cw := S.whole hs
  have ⟨hf, ht, hm⟩ : s.f.length = 32 ∧ s.t.length = 32 ∧ s.m.length = 32 := ⟨hs.f, hs.t, hs.m⟩
  have zl := zero32_len
  go_enter Try.func26, Try.ntmps26
  go_wp2_with fail
  generalize (w.alloc (.cells s.row.toArray 26)).alloc (.cells (hc zero32).toArray 23) = wa at S R B U cw ⊢
  refine (Right_any hs _).mono ?_
  rintro e w1 ⟨rfl, hb⟩
  have S1 := S.on hb
  have R1 := R.on hb
  have U1 := U.on hb
  have B1 := B.trans (hb.mono B.size)
  clear S R U B cw hb
  obtain ⟨-, -, c98, cw, -, -, -⟩ := S1.facts hs
  cases hr : s.right
  · have eh : s.honest n T = (zero32, false) := by simp [Seg.honest, hr]
    have rt := R1.there zl
    have cr := (R1.set zl zl).row zl
    have B9 := below_setCells' (w.heap.size + 1) (by omega) (hc zero32) 0 B1
    go_wp2_with fail
    rw [eh]
    refine bodyPost_ret (v := .tuple #[.agg (hc zero32).toArray, .bool false]) (by simp [results, Try.results26, go_sem, cr, zl]) rfl ⟨rfl, B9⟩
  · have hmid := Seg.middle_lo hr
    cases hp : s.p
    · rw [hp] at c98
      go_wp2_with fail
      refine (Last_any hs _).mono ?_
      rintro e w2 ⟨rfl, hb⟩
      have S2 := S1.on hb
      have R2 := R1.on hb
      have U2 := U1.on hb
      have B2 := B1.trans (hb.mono B1.size)
      clear S1 R1 U1 B1 hb cw c98
      have cw := S2.whole hs
      cases hl : s.last
      · go_wp2_with fail
        refine (Middle_any hs _).mono ?_
        rintro e w3 ⟨rfl, hb⟩
        have S3 := S2.on hb
        have R3 := R2.on hb
        have U3 := U2.on hb
        have B3 := B2.trans (hb.mono B2.size)
        clear S2 R2 U2 B2 hb cw
        by_cases hn : (n : Int) ≤ s.middle
        · have eh : s.honest n T = (zero32, false) := by simp [Seg.honest, hr, hp, hl, hn]
          have rt := R3.there zl
          have cr := (R3.set zl zl).row zl
          have B9 := below_setCells' (w.heap.size + 1) (by omega) (hc zero32) 0 B3
          go_wp2_with fail
          rw [eh]
          refine bodyPost_ret (v := .tuple #[.agg (hc zero32).toArray, .bool false]) (by simp [results, Try.results26, go_sem, cr, zl]) rfl ⟨rfl, B9⟩
        · have cw := S3.whole hs
          have hlt : s.middle < (n : Int) := by omega
          have h0 : 0 ≤ s.middle := hmid.1
          go_wp2_with fail
          refine (Middle_any hs _).mono ?_
          rintro e w4 ⟨rfl, hb⟩
          have R4 := R3.on hb
          have U4 := U3.on hb
          have B4 := B3.trans (hb.mono B3.size)
          clear S3 R3 U3 B3 hb cw
          obtain ⟨b, o, rfl, hlb, hlen, hrow⟩ := U4 s.middle.toNat (by omega)
          have hd : decide ((n : Int) ≤ s.middle) = false := by simpa using hlt
          have eh : s.honest n T = (T s.middle.toNat, true) := by unfold Seg.honest; rw [hr, hp, hl, hd]; rfl
          have rt := R4.there zl
          have cr := (R4.set zl hlen).row hlen
          have B9 := below_setCells' (w.heap.size + 1) (by omega) (hc (T s.middle.toNat)) 0 B4
          clear U4 R4
          obtain ⟨k, hk⟩ : ∃ k : Nat, s.middle = k := ⟨s.middle.toNat, by omega⟩
          rw [hk] at hlt h0 hrow cr B9 hlen eh ⊢
          simp only [Int.toNat_natCast] at hrow cr B9 hlen eh ⊢
          have E := Lib.hid eh
          clear eh
          go_wp2_with fail
          rw [E.out]
          refine bodyPost_ret (v := .tuple #[.agg (hc (T k)).toArray, .bool true]) (by simp [results, Try.results26, go_sem, cr, hlen]) rfl ⟨rfl, B9⟩
      · have eh : s.honest n T = (zero32, false) := by simp [Seg.honest, hr, hp, hl]
        have rt := R2.there zl
        have cr := (R2.set zl zl).row zl
        have B9 := below_setCells' (w.heap.size + 1) (by omega) (hc zero32) 0 B2
        go_wp2_with fail
        rw [eh]
        refine bodyPost_ret (v := .tuple #[.agg (hc zero32).toArray, .bool false]) (by simp [results, Try.results26, go_sem, cr, zl]) rfl ⟨rfl, B9⟩
    · rw [hp] at c98
      have eh : s.honest n T = (zero32, false) := by simp [Seg.honest, hr, hp]
      have rt := R1.there zl
      have cr := (R1.set zl zl).row zl
      have B9 := below_setCells' (w.heap.size + 1) (by omega) (hc zero32) 0 B1
      go_wp2_with fail
      rw [eh]
      refine bodyPost_ret (v := .tuple #[.agg (hc zero32).toArray, .bool false]) (by simp [results, Try.results26, go_sem, cr, zl]) rfl ⟨rfl, B9⟩
end Go.Proofs.Ytcogoncekbiacaa
