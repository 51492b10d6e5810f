/-
  basculelaw03.put, with no writer.
-/
import Derived.Test.YtigpiejjblfenaaCodecP
import Derived.Test.YtigpiejjblfenaaCodecN2
namespace Go.Proofs.Ytigpiejjblfenaa
set_option maxRecDepth 100000
open Go.RowKit

/-- A slice whose cells can be read. -/
def Rdc (w : World) (v : Value) (k n : Nat) (news : List Value) : Prop := ∃ q c, v = .slice q n c ∧ news.length = n * k ∧ (∀ u ∈ news, u.oneCell' = true) ∧ (n = 0 ∨ ∃ a, q = some a ∧ ∀ j u, news[j]? = some u → w.cell? (a.add j) = some u)
theorem Rdc.on {w w' : World} {v : Value} {k n : Nat} {news : List Value} (h : Rdc w v k n news) (hb : Below w.heap.size w w') : Rdc w' v k n news := by
  obtain ⟨q, c, rfl, h1, h2, h3⟩ := h
  refine ⟨q, c, rfl, h1, h2, ?_⟩
  rcases h3 with h3 | ⟨a, rfl, h3⟩
  · exact .inl h3
  · exact .inr ⟨a, rfl, fun j u hu => (hb.cell (lt_of_cell (h3 j u hu))).trans (h3 j u hu)⟩
theorem Rdc.src {P : Program} {w : World} {v : Value} {k n : Nat} {news : List Value} {tx e' : TypeId} (hk : P.underlying tx = some (.slice e')) (h : Rdc w v k n news) : Src P k tx v n news w := by
  obtain ⟨q, c, rfl, h1, h2, h3⟩ := h
  rcases h3 with rfl | ⟨a, rfl, h3⟩
  · obtain rfl : news = [] := List.eq_nil_of_length_eq_zero (by simpa using h1)
    cases q with
    | none => exact Src.ofNil w hk c
    | some a => exact Src.ofSlice w hk a 0 c [] (by simp) (by simp) (by simp)
  · exact Src.ofSlice w hk a n c news h1 h3 h2

/-- An item's cells. -/
structure ItV (w : World) (cs : List Value) : Prop where
  form : ∃ (k : Int) (vu vw vh vb : Value), cs = [.int .i64 k, vu, vw, vh, vb] ∧ (∃ n xs, n * 8 ≤ 140737488355328 ∧ Rdc w vu 1 n xs) ∧ (∃ n xs, n * 32 ≤ 140737488355328 ∧ Rdc w vw 4 n xs) ∧ (∃ n xs, n * 32 ≤ 140737488355328 ∧ Rdc w vh 32 n xs) ∧
    (∃ L : List (List Int), L.length * 24 ≤ 140737488355328 ∧ (∀ i, (L.getD i []).length ≤ 140737488355328) ∧ RdL w vb L [])
theorem ItV.on {w w' : World} {cs : List Value} (h : ItV w cs) (hb : Below w.heap.size w w') : ItV w' cs := by
  obtain ⟨k, vu, vw, vh, vb, e, ⟨n1, x1, s1, r1⟩, ⟨n2, x2, s2, r2⟩, ⟨n3, x3, s3, r3⟩, ⟨L, l1, l2, l3⟩⟩ := h.form
  exact ⟨k, vu, vw, vh, vb, e, ⟨n1, x1, s1, r1.on hb⟩, ⟨n2, x2, s2, r2.on hb⟩, ⟨n3, x3, s3, r3.on hb⟩, ⟨L, l1, l2, l3.chg (Chg.below hb (Nat.le_refl _) [])⟩⟩

theorem Try.infoU64 : (Try.prog.info? 41).map (fun i => (i.zero, i.size, i.bytes)) = some (some (.int .u64 0), 1, 8) := by kernel_rfl
theorem Try.infoWide : (Try.prog.info? 44).map (fun i => (i.zero, i.size, i.bytes)) = some (some (.agg #[.int .u64 0, .int .u64 0, .int .u64 0, .int .u64 0]), 4, 32) := by kernel_rfl
theorem Try.infoHash : (Try.prog.info? 47).map (fun i => (i.zero, i.size, i.bytes)) = some (some (.agg (hc zero32).toArray), 32, 32) := by kernel_rfl

set_option maxHeartbeats 4000000 in
theorem put_nil {w : World} {a : Value} (ha : Un w a) {cs : List Value} (hx : ItV w cs) :
    Calls Try.prog 11 #[a, .agg cs.toArray] w fun e w' => e = .returned (.int .i64 1) ∧ Below w.heap.size w w' := by
  obtain ⟨k, vu, vw, vh, vb, rfl, ⟨n1, x1, s1, r1⟩, ⟨n2, x2, s2, r2⟩, ⟨n3, x3, s3, r3⟩, ⟨L, l1, l2, l3⟩⟩ := hx.form
  clear hx
  have hb1 : Below w.heap.size w (w.alloc (.cells #[.int .i64 k, vu, vw, vh, vb] 33)) := (Below.refl _ _).alloc (Nat.le_refl _) _
  have B1 := Lib.hid hb1
  have hu := Lib.hid (ha.on hb1)
  have R1 := Lib.hid (r1.on hb1)
  have R2 := Lib.hid (r2.on hb1)
  have R3 := Lib.hid (r3.on hb1)
  have R4 := Lib.hid (l3.chg (Chg.below hb1 (Nat.le_refl _) []))
  obtain ⟨q1, c1, rfl⟩ : ∃ q c, vu = .slice q n1 c := by obtain ⟨q, c, e, _⟩ := r1; exact ⟨q, c, e⟩
  obtain ⟨q2, c2, rfl⟩ : ∃ q c, vw = .slice q n2 c := by obtain ⟨q, c, e, _⟩ := r2; exact ⟨q, c, e⟩
  obtain ⟨q3, c3, rfl⟩ : ∃ q c, vh = .slice q n3 c := by obtain ⟨q, c, e, _⟩ := r3; exact ⟨q, c, e⟩
  obtain ⟨q4, c4, rfl⟩ : ∃ q c, vb = .slice q L.length c := by obtain ⟨q, c, e, _⟩ := l3; exact ⟨q, c, e⟩
  clear ha r1 r2 r3 l3 hb1
  obtain ⟨i0, hi, iz0, iz1, iz2⟩ := info_parts Try.infoU64
  obtain ⟨j0, hj, jz0, jz1, jz2⟩ := info_parts Try.infoWide
  obtain ⟨k0, hk, kz0, kz1, kz2⟩ := info_parts Try.infoHash
  go_enter Try.func11, Try.ntmps11
  by_cases k1 : k = 0
  · subst k1
    have E := own_empty (w.alloc (.cells #[.int .i64 0, .slice q1 n1 c1, .slice q2 n2 c2, .slice q3 n3 c3, .slice q4 L.length c4] 33)) 41 1
    have N : (w.alloc (.cells #[.int .i64 0, .slice q1 n1 c1, .slice q2 n2 c2, .slice q3 n3 c3, .slice q4 L.length c4] 33)).heap.size = w.heap.size + 1 := by simp
    rw [N] at E
    have BE : Below (w.alloc (.cells #[.int .i64 0, .slice q1 n1 c1, .slice q2 n2 c2, .slice q3 n3 c3, .slice q4 L.length c4] 33)).heap.size (w.alloc (.cells #[.int .i64 0, .slice q1 n1 c1, .slice q2 n2 c2, .slice q3 n3 c3, .slice q4 L.length c4] 33)) ((w.alloc (.cells #[.int .i64 0, .slice q1 n1 c1, .slice q2 n2 c2, .slice q3 n3 c3, .slice q4 L.length c4] 33)).alloc (.cells #[] 41)) := (Below.refl _ _).alloc (Nat.le_refl _) _
    have SR := (R1.out.on BE).src (P := Try.prog) Try.underlying28
    go_wp2_with (at_builtin; refine wpList_append_row rfl _ _ rfl Try.underlying28 hi iz0 iz1 iz2 (by kernel_rfl) E SR ?b1 ?b2 ?_)
    case b1 => unfold maxLen; omega
    (try case b2 => omega)
    intro q9 k9 w9 own9 grow9 fr9
    have B9 : Below w.heap.size w w9 := (B1.out.trans (BE.mono B1.out.size)).grown grow9 (by simp; omega) (by intro g hg; simp [Value.ownBlock] at hg; omega)
    have U9 : Un w9 a := by
      have B9' : Below (w.alloc (.cells #[.int .i64 0, .slice q1 n1 c1, .slice q2 n2 c2, .slice q3 n3 c3, .slice q4 L.length c4] 33)).heap.size (w.alloc (.cells #[.int .i64 0, .slice q1 n1 c1, .slice q2 n2 c2, .slice q3 n3 c3, .slice q4 L.length c4] 33)) w9 := BE.grown grow9 (by simp) (by intro g hg; simp [Value.ownBlock] at hg; simp; omega)
      exact hu.out.on B9'
    clear own9 grow9 fr9 SR E BE
    go_wp2_with fail
    refine (WUint_nil U9 _).mono ?_
    rintro e wx ⟨rfl, rfl⟩
    go_wp2_with fail
    go_ret
    exact ⟨rfl, B9⟩
  by_cases k2 : k = 1
  · subst k2
    have E := own_empty (w.alloc (.cells #[.int .i64 1, .slice q1 n1 c1, .slice q2 n2 c2, .slice q3 n3 c3, .slice q4 L.length c4] 33)) 44 4
    have N : (w.alloc (.cells #[.int .i64 1, .slice q1 n1 c1, .slice q2 n2 c2, .slice q3 n3 c3, .slice q4 L.length c4] 33)).heap.size = w.heap.size + 1 := by simp
    rw [N] at E
    have BE : Below (w.alloc (.cells #[.int .i64 1, .slice q1 n1 c1, .slice q2 n2 c2, .slice q3 n3 c3, .slice q4 L.length c4] 33)).heap.size (w.alloc (.cells #[.int .i64 1, .slice q1 n1 c1, .slice q2 n2 c2, .slice q3 n3 c3, .slice q4 L.length c4] 33)) ((w.alloc (.cells #[.int .i64 1, .slice q1 n1 c1, .slice q2 n2 c2, .slice q3 n3 c3, .slice q4 L.length c4] 33)).alloc (.cells #[] 44)) := (Below.refl _ _).alloc (Nat.le_refl _) _
    have SR := (R2.out.on BE).src (P := Try.prog) Try.underlying29
    go_wp2_with (at_builtin; refine wpList_append_row rfl _ _ rfl Try.underlying29 hj jz0 jz1 jz2 (by kernel_rfl) E SR ?b1 ?b2 ?_)
    case b1 => unfold maxLen; omega
    (try case b2 => omega)
    intro q9 k9 w9 own9 grow9 fr9
    have B9 : Below w.heap.size w w9 := (B1.out.trans (BE.mono B1.out.size)).grown grow9 (by simp; omega) (by intro g hg; simp [Value.ownBlock] at hg; omega)
    have U9 : Un w9 a := by
      have B9' : Below (w.alloc (.cells #[.int .i64 1, .slice q1 n1 c1, .slice q2 n2 c2, .slice q3 n3 c3, .slice q4 L.length c4] 33)).heap.size (w.alloc (.cells #[.int .i64 1, .slice q1 n1 c1, .slice q2 n2 c2, .slice q3 n3 c3, .slice q4 L.length c4] 33)) w9 := BE.grown grow9 (by simp) (by intro g hg; simp [Value.ownBlock] at hg; simp; omega)
      exact hu.out.on B9'
    clear own9 grow9 fr9 SR E BE
    go_wp2_with fail
    refine (WWide_nil U9 _).mono ?_
    rintro e wx ⟨rfl, rfl⟩
    go_wp2_with fail
    go_ret
    exact ⟨rfl, B9⟩
  by_cases k3 : k = 2
  · subst k3
    have E := own_empty (w.alloc (.cells #[.int .i64 2, .slice q1 n1 c1, .slice q2 n2 c2, .slice q3 n3 c3, .slice q4 L.length c4] 33)) 47 32
    have N : (w.alloc (.cells #[.int .i64 2, .slice q1 n1 c1, .slice q2 n2 c2, .slice q3 n3 c3, .slice q4 L.length c4] 33)).heap.size = w.heap.size + 1 := by simp
    rw [N] at E
    have BE : Below (w.alloc (.cells #[.int .i64 2, .slice q1 n1 c1, .slice q2 n2 c2, .slice q3 n3 c3, .slice q4 L.length c4] 33)).heap.size (w.alloc (.cells #[.int .i64 2, .slice q1 n1 c1, .slice q2 n2 c2, .slice q3 n3 c3, .slice q4 L.length c4] 33)) ((w.alloc (.cells #[.int .i64 2, .slice q1 n1 c1, .slice q2 n2 c2, .slice q3 n3 c3, .slice q4 L.length c4] 33)).alloc (.cells #[] 47)) := (Below.refl _ _).alloc (Nat.le_refl _) _
    have SR := (R3.out.on BE).src (P := Try.prog) Try.underlying30
    go_wp2_with (at_builtin; refine wpList_append_row rfl _ _ rfl Try.underlying30 hk kz0 kz1 kz2 (by kernel_rfl) E SR ?b1 ?b2 ?_)
    case b1 => unfold maxLen; omega
    (try case b2 => omega)
    intro q9 k9 w9 own9 grow9 fr9
    have B9 : Below w.heap.size w w9 := (B1.out.trans (BE.mono B1.out.size)).grown grow9 (by simp; omega) (by intro g hg; simp [Value.ownBlock] at hg; omega)
    have U9 : Un w9 a := by
      have B9' : Below (w.alloc (.cells #[.int .i64 2, .slice q1 n1 c1, .slice q2 n2 c2, .slice q3 n3 c3, .slice q4 L.length c4] 33)).heap.size (w.alloc (.cells #[.int .i64 2, .slice q1 n1 c1, .slice q2 n2 c2, .slice q3 n3 c3, .slice q4 L.length c4] 33)) w9 := BE.grown grow9 (by simp) (by intro g hg; simp [Value.ownBlock] at hg; simp; omega)
      exact hu.out.on B9'
    clear own9 grow9 fr9 SR E BE
    go_wp2_with fail
    refine (WHash_nil U9 _).mono ?_
    rintro e wx ⟨rfl, rfl⟩
    go_wp2_with fail
    go_ret
    exact ⟨rfl, B9⟩
  have e1 : (k == 0) = false := by simpa using k1
  have e2 : (k == 1) = false := by simpa using k2
  have e3 : (k == 2) = false := by simpa using k3
  clear k1 k2 k3
  go_wp2_with fail
  refine (Parts_any R4.out l1 l2).mono ?_
  rintro e w9 ⟨v9, vs, rfl, P9⟩
  have U9 := hu.out.on P9.below
  have B9 := B1.out.trans (P9.below.mono B1.out.size)
  go_wp2_with fail
  refine (WBlob_nil U9 _).mono ?_
  rintro e wx ⟨rfl, rfl⟩
  go_wp2_with fail
  go_ret
  exact ⟨rfl, B9⟩
end Go.Proofs.Ytigpiejjblfenaa
