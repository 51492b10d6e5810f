/-
  basculelaw03.put, with a writer that was made.
-/
import Derived.Test.YtigpiejjblfenaaCodecZ
namespace Go.Proofs.Ytigpiejjblfenaa
set_option maxRecDepth 100000
open Go.RowKit

/-- Exact copies read as what was copied, and lie in new blocks. -/
theorem parts_rdl {w wr : World} {L : List (List Int)} {v : Value} {vs : List Value} (h : PtS w wr L L.length v vs) : RdL wr v L (List.range w.heap.size) := by
  obtain ⟨q, c, rfl⟩ := own_slice h.own
  refine ⟨q, c, rfl, ?_⟩
  rcases h.own.2 with ⟨_, h0⟩ | ⟨g, cap, cur, e1, _, hg, _⟩
  · exact .inl (List.eq_nil_of_length_eq_zero h0)
  · simp only [Value.slice.injEq] at e1
    obtain ⟨rfl, -, -⟩ := e1
    refine .inr ⟨g, 0, rfl, fun hm => ?_, fun i hi => ?_⟩
    · have := h.fresh g rfl
      simp at hm; omega
    · have hlen := h.len
      obtain ⟨u, hu⟩ : ∃ u, vs[i]? = some u := ⟨vs[i]'(by omega), by simp [show i < vs.length by omega]⟩
      obtain ⟨e1, e2⟩ := h.each i u hu
      have := h.own.cells (g := g) rfl i u hu
      rw [addr_add] at this
      exact ⟨u, this, rd_of_row e1, fun _ k hk hm => by have := e2 k hk; simp at hm; omega⟩
theorem RdL.sub {w : World} {v : Value} {L : List (List Int)} {S T : List Nat} (h : RdL w v L S) (hT : ∀ x, x ∈ T → x ∈ S) : RdL w v L T := by
  obtain ⟨q, c, rfl, hq | ⟨b, off, rfl, hb, hx⟩⟩ := h
  · exact ⟨q, c, rfl, .inl hq⟩
  · exact ⟨_, c, rfl, .inr ⟨b, off, rfl, fun hm => hb (hT _ hm), fun i hi => by
      obtain ⟨u, h1, h2, h3⟩ := hx i hi
      exact ⟨u, h1, h2, fun hn k hk hm => h3 hn k hk (hT _ hm)⟩⟩⟩

set_option maxHeartbeats 4000000 in
theorem put_fits {w : World} {p : Nat} {v : Value} {xs : List Int} (h : WrV w p v xs) {cs : List Value} {x : It} (hx : ItR w cs x) (hl : xs.length + x.bytes.length ≤ 65536) :
    Calls Try.prog 11 #[.pointer (some ⟨p, 0, none⟩), .agg cs.toArray] w fun e w' => e = .returned (.int .i64 0) ∧ WSt w p v w' (xs ++ x.bytes) := by
  obtain ⟨vu, vw, vh, vb, rfl, r1, r2, r3, l3⟩ := hx.form
  have s1 := hx.s1
  have s2 := hx.s2
  have s3 := hx.s3
  have l1 := hx.s4
  have l2 := hx.s5
  have Z2 := Lib.hid hx.z2
  have L3 := Lib.hid (show x.nh = 0 ∨ x.zh.length = x.nh * 32 from by obtain ⟨_, _, _, e, _⟩ := r3; exact .inr e)
  clear hx
  have hb1 : Below w.heap.size w (w.alloc (.cells #[.int .i64 x.k, vu, vw, vh, vb] 33)) := (Below.refl _ _).alloc (Nat.le_refl _) _
  have B1 := Lib.hid hb1
  have H := Lib.hid h
  have HV : Hid (∀ g, v.ownBlock = some g → g < w.heap.size) := fun g hg => own_lt h.own hg
  have hpl := h.lt
  have R1 := Lib.hid (r1.on hb1)
  have R2 := Lib.hid (r2.on hb1)
  have R3 := Lib.hid (r3.on hb1)
  have R4 := Lib.hid (l3.chg (Chg.below hb1 (Nat.le_refl _) []))
  obtain ⟨q1, c1, rfl⟩ := r1.len
  obtain ⟨q2, c2, rfl⟩ := r2.len
  obtain ⟨q3, c3, rfl⟩ := r3.len
  obtain ⟨q4, c4, rfl⟩ : ∃ q c, vb = .slice q x.bs.length c := by obtain ⟨q, c, e, _⟩ := l3; exact ⟨q, c, e⟩
  clear r1 r2 r3 l3 hb1 h
  obtain ⟨i0, iii, iiz0, iiz1, iiz2⟩ := info_parts Try.infoU64
  obtain ⟨j0, jji, jjz0, jjz1, jjz2⟩ := info_parts Try.infoWide
  obtain ⟨k0, kki, kkz0, kkz1, kkz2⟩ := info_parts Try.infoHash
  obtain ⟨kx, us, nw, zw, nh, zh, bs⟩ := x
  dsimp only at *
  go_enter Try.func11, Try.ntmps11
  by_cases k1 : kx = 0
  · have hb : It.bytes ⟨kx, us, nw, zw, nh, zh, bs⟩ = nums us := by unfold It.bytes; rw [if_pos k1]
    rw [hb, nums_len] at hl
    try rw [hb]
    clear hb
    subst k1
    have E := own_empty (w.alloc (.cells #[.int .i64 0, .slice q1 us.length c1, .slice q2 nw c2, .slice q3 nh c3, .slice q4 bs.length c4] 33)) 41 1
    have N : (w.alloc (.cells #[.int .i64 0, .slice q1 us.length c1, .slice q2 nw c2, .slice q3 nh c3, .slice q4 bs.length c4] 33)).heap.size = w.heap.size + 1 := by simp
    rw [N] at E
    have BE : Below (w.alloc (.cells #[.int .i64 0, .slice q1 us.length c1, .slice q2 nw c2, .slice q3 nh c3, .slice q4 bs.length c4] 33)).heap.size (w.alloc (.cells #[.int .i64 0, .slice q1 us.length c1, .slice q2 nw c2, .slice q3 nh c3, .slice q4 bs.length c4] 33)) ((w.alloc (.cells #[.int .i64 0, .slice q1 us.length c1, .slice q2 nw c2, .slice q3 nh c3, .slice q4 bs.length c4] 33)).alloc (.cells #[] 41)) := (Below.refl _ _).alloc (Nat.le_refl _) _
    have SR := (R1.out.on BE).rdc.src (P := Try.prog) Try.underlying28
    go_wp2_with (at_builtin; refine wpList_append_row rfl _ _ rfl Try.underlying28 iii iiz0 iiz1 iiz2 (by kernel_rfl) E SR ?b1 ?b2 ?_)
    case b1 => unfold maxLen; omega
    (try case b2 => omega)
    intro q9 k9 w9 own9 grow9 fr9
    have B9 : Below w.heap.size w w9 := (B1.out.trans (BE.mono B1.out.size)).grown grow9 (by simp; omega) (by intro g hg; simp [Value.ownBlock] at hg; omega)
    have F9 : ∀ g, (Value.slice q9 us.length k9).ownBlock = some g → w.heap.size < g := fun g hg => by
      rcases fr9 with e | e
      · rw [e] at hg; simp [Value.ownBlock] at hg; omega
      · rw [e] at hg; simp at hg; omega
    have RN := RdZ.of_own (kd := .u64) (zs := us) (S := p :: v.ownBlock.toList) own9 (fun g hg hm => by
      have := F9 g hg
      rcases List.mem_cons.1 hm with rfl | hm
      · omega
      · have := HV.out g (by simpa using hm); omega)
    have H9 := H.out.on B9
    clear own9 grow9 fr9 SR E BE
    go_wp2_with fail
    refine (WUint_fits H9 RN.nums (by omega)).mono ?_
    rintro e wx ⟨rfl, hw⟩
    go_wp2_with fail
    go_ret
    exact ⟨rfl, WSt.trans ⟨v, H9, Chg.below B9 (Nat.le_refl _) _, .inl rfl⟩ (fun u hu => by
      have e1 : u = v := by
        have := hu.cells.2.1
        rw [H9.cells.2.1] at this
        exact (Option.some.inj this).symm
      rw [e1]
      exact hw)⟩
  by_cases k2 : kx = 1
  · have hb : It.bytes ⟨kx, us, nw, zw, nh, zh, bs⟩ = wides (wsOf nw zw) := by unfold It.bytes; rw [if_neg k1, if_pos k2]
    rw [hb, wides_len, wsOf_len] at hl
    try rw [hb]
    clear hb k1
    subst k2
    have E := own_empty (w.alloc (.cells #[.int .i64 1, .slice q1 us.length c1, .slice q2 nw c2, .slice q3 nh c3, .slice q4 bs.length c4] 33)) 44 4
    have N : (w.alloc (.cells #[.int .i64 1, .slice q1 us.length c1, .slice q2 nw c2, .slice q3 nh c3, .slice q4 bs.length c4] 33)).heap.size = w.heap.size + 1 := by simp
    rw [N] at E
    have BE : Below (w.alloc (.cells #[.int .i64 1, .slice q1 us.length c1, .slice q2 nw c2, .slice q3 nh c3, .slice q4 bs.length c4] 33)).heap.size (w.alloc (.cells #[.int .i64 1, .slice q1 us.length c1, .slice q2 nw c2, .slice q3 nh c3, .slice q4 bs.length c4] 33)) ((w.alloc (.cells #[.int .i64 1, .slice q1 us.length c1, .slice q2 nw c2, .slice q3 nh c3, .slice q4 bs.length c4] 33)).alloc (.cells #[] 44)) := (Below.refl _ _).alloc (Nat.le_refl _) _
    have SR := (R2.out.on BE).rdc.src (P := Try.prog) Try.underlying29
    go_wp2_with (at_builtin; refine wpList_append_row rfl _ _ rfl Try.underlying29 jji jjz0 jjz1 jjz2 (by kernel_rfl) E SR ?b1 ?b2 ?_)
    case b1 => unfold maxLen; omega
    (try case b2 => omega)
    intro q9 k9 w9 own9 grow9 fr9
    have B9 : Below w.heap.size w w9 := (B1.out.trans (BE.mono B1.out.size)).grown grow9 (by simp; omega) (by intro g hg; simp [Value.ownBlock] at hg; omega)
    have F9 : ∀ g, (Value.slice q9 nw k9).ownBlock = some g → w.heap.size < g := fun g hg => by
      rcases fr9 with e | e
      · rw [e] at hg; simp [Value.ownBlock] at hg; omega
      · rw [e] at hg; simp at hg; omega
    have RN := RdZ.of_own (kd := .u64) (zs := zw) (S := p :: v.ownBlock.toList) own9 (fun g hg hm => by
      have := F9 g hg
      rcases List.mem_cons.1 hm with rfl | hm
      · omega
      · have := HV.out g (by simpa using hm); omega)
    have H9 := H.out.on B9
    clear own9 grow9 fr9 SR E BE
    go_wp2_with fail
    refine (WWide_fits H9 (RN.wides Z2.out) (by rw [wsOf_len]; omega)).mono ?_
    rintro e wx ⟨rfl, hw⟩
    go_wp2_with fail
    go_ret
    exact ⟨rfl, WSt.trans ⟨v, H9, Chg.below B9 (Nat.le_refl _) _, .inl rfl⟩ (fun u hu => by
      have e1 : u = v := by
        have := hu.cells.2.1
        rw [H9.cells.2.1] at this
        exact (Option.some.inj this).symm
      rw [e1]
      exact hw)⟩
  by_cases k3 : kx = 2
  · have hz : zh.length = nh * 32 := by obtain ⟨_, _, _, e2, _⟩ := R3.out; exact e2
    have hb : It.bytes ⟨kx, us, nw, zw, nh, zh, bs⟩ = (hsOf nh zh).flatten := by unfold It.bytes; rw [if_neg k1, if_neg k2, if_pos k3]
    rw [hb, hsOf_flat hz] at hl
    try rw [hb]
    clear hb k1 k2
    subst k3
    have E := own_empty (w.alloc (.cells #[.int .i64 2, .slice q1 us.length c1, .slice q2 nw c2, .slice q3 nh c3, .slice q4 bs.length c4] 33)) 47 32
    have N : (w.alloc (.cells #[.int .i64 2, .slice q1 us.length c1, .slice q2 nw c2, .slice q3 nh c3, .slice q4 bs.length c4] 33)).heap.size = w.heap.size + 1 := by simp
    rw [N] at E
    have BE : Below (w.alloc (.cells #[.int .i64 2, .slice q1 us.length c1, .slice q2 nw c2, .slice q3 nh c3, .slice q4 bs.length c4] 33)).heap.size (w.alloc (.cells #[.int .i64 2, .slice q1 us.length c1, .slice q2 nw c2, .slice q3 nh c3, .slice q4 bs.length c4] 33)) ((w.alloc (.cells #[.int .i64 2, .slice q1 us.length c1, .slice q2 nw c2, .slice q3 nh c3, .slice q4 bs.length c4] 33)).alloc (.cells #[] 47)) := (Below.refl _ _).alloc (Nat.le_refl _) _
    have SR := (R3.out.on BE).rdc.src (P := Try.prog) Try.underlying30
    go_wp2_with (at_builtin; refine wpList_append_row rfl _ _ rfl Try.underlying30 kki kkz0 kkz1 kkz2 (by kernel_rfl) E SR ?b1 ?b2 ?_)
    case b1 => unfold maxLen; omega
    (try case b2 => omega)
    intro q9 k9 w9 own9 grow9 fr9
    have B9 : Below w.heap.size w w9 := (B1.out.trans (BE.mono B1.out.size)).grown grow9 (by simp; omega) (by intro g hg; simp [Value.ownBlock] at hg; omega)
    have F9 : ∀ g, (Value.slice q9 nh k9).ownBlock = some g → w.heap.size < g := fun g hg => by
      rcases fr9 with e | e
      · rw [e] at hg; simp [Value.ownBlock] at hg; omega
      · rw [e] at hg; simp at hg; omega
    have RN := RdZ.of_own (kd := .u8) (zs := zh) (S := p :: v.ownBlock.toList) own9 (fun g hg hm => by
      have := F9 g hg
      rcases List.mem_cons.1 hm with rfl | hm
      · omega
      · have := HV.out g (by simpa using hm); omega)
    have H9 := H.out.on B9
    clear own9 grow9 fr9 SR E BE
    go_wp2_with fail
    refine (WHash_fits H9 RN.hashes (by rw [hsOf_len]; omega) (by rw [hsOf_flat hz]; omega)).mono ?_
    rintro e wx ⟨rfl, hw⟩
    go_wp2_with fail
    go_ret
    exact ⟨rfl, WSt.trans ⟨v, H9, Chg.below B9 (Nat.le_refl _) _, .inl rfl⟩ (fun u hu => by
      have e1 : u = v := by
        have := hu.cells.2.1
        rw [H9.cells.2.1] at this
        exact (Option.some.inj this).symm
      rw [e1]
      exact hw)⟩
  have hb : It.bytes ⟨kx, us, nw, zw, nh, zh, bs⟩ = blobs bs := by unfold It.bytes; rw [if_neg k1, if_neg k2, if_neg k3]
  rw [hb] at hl
  try rw [hb]
  clear hb
  have e1 : (kx == 0) = false := by simpa using k1
  have e2 : (kx == 1) = false := by simpa using k2
  have e3 : (kx == 2) = false := by simpa using k3
  clear k1 k2 k3
  go_wp2_with fail
  refine (Parts_any R4.out l1 l2).mono ?_
  rintro e w9 ⟨v9, vs, rfl, P9⟩
  have B9 := B1.out.trans (P9.below.mono B1.out.size)
  have H9 := H.out.on B9
  have RB := parts_rdl P9
  go_wp2_with fail
  refine (WBlob_fits H9 (RB.sub (fun g hm => by
      rcases List.mem_cons.1 hm with rfl | hm
      · simp; omega
      · have := HV.out g (by simpa using hm); simp; omega)) hl).mono ?_
  rintro e wx ⟨rfl, hw⟩
  go_wp2_with fail
  go_ret
  exact ⟨rfl, WSt.trans ⟨v, H9, Chg.below B9 (Nat.le_refl _) _, .inl rfl⟩ (fun u hu => by
      have e1 : u = v := by
        have := hu.cells.2.1
        rw [H9.cells.2.1] at this
        exact (Option.some.inj this).symm
      rw [e1]
      exact hw)⟩

set_option maxHeartbeats 4000000 in
theorem put_full {w : World} {p : Nat} {v : Value} {xs : List Int} (h : WrV w p v xs) {cs : List Value} {x : It} (hx : ItR w cs x) (hx0 : xs.length ≤ 65536) (hl : 65536 < xs.length + x.bytes.length) :
    Calls Try.prog 11 #[.pointer (some ⟨p, 0, none⟩), .agg cs.toArray] w fun e w' => e = .returned (.int .i64 6) ∧ Below w.heap.size w w' := by
  obtain ⟨vu, vw, vh, vb, rfl, r1, r2, r3, l3⟩ := hx.form
  have s1 := hx.s1
  have s2 := hx.s2
  have s3 := hx.s3
  have l1 := hx.s4
  have l2 := hx.s5
  have Z2 := Lib.hid hx.z2
  have L3 := Lib.hid (show x.nh = 0 ∨ x.zh.length = x.nh * 32 from by obtain ⟨_, _, _, e, _⟩ := r3; exact .inr e)
  clear hx
  have hb1 : Below w.heap.size w (w.alloc (.cells #[.int .i64 x.k, vu, vw, vh, vb] 33)) := (Below.refl _ _).alloc (Nat.le_refl _) _
  have B1 := Lib.hid hb1
  have H := Lib.hid h
  have HV : Hid (∀ g, v.ownBlock = some g → g < w.heap.size) := fun g hg => own_lt h.own hg
  have hpl := h.lt
  have R1 := Lib.hid (r1.on hb1)
  have R2 := Lib.hid (r2.on hb1)
  have R3 := Lib.hid (r3.on hb1)
  have R4 := Lib.hid (l3.chg (Chg.below hb1 (Nat.le_refl _) []))
  obtain ⟨q1, c1, rfl⟩ := r1.len
  obtain ⟨q2, c2, rfl⟩ := r2.len
  obtain ⟨q3, c3, rfl⟩ := r3.len
  obtain ⟨q4, c4, rfl⟩ : ∃ q c, vb = .slice q x.bs.length c := by obtain ⟨q, c, e, _⟩ := l3; exact ⟨q, c, e⟩
  clear r1 r2 r3 l3 hb1 h
  obtain ⟨i0, iii, iiz0, iiz1, iiz2⟩ := info_parts Try.infoU64
  obtain ⟨j0, jji, jjz0, jjz1, jjz2⟩ := info_parts Try.infoWide
  obtain ⟨k0, kki, kkz0, kkz1, kkz2⟩ := info_parts Try.infoHash
  obtain ⟨kx, us, nw, zw, nh, zh, bs⟩ := x
  dsimp only at *
  go_enter Try.func11, Try.ntmps11
  by_cases k1 : kx = 0
  · have hb : It.bytes ⟨kx, us, nw, zw, nh, zh, bs⟩ = nums us := by unfold It.bytes; rw [if_pos k1]
    rw [hb, nums_len] at hl
    try rw [hb]
    clear hb
    subst k1
    have E := own_empty (w.alloc (.cells #[.int .i64 0, .slice q1 us.length c1, .slice q2 nw c2, .slice q3 nh c3, .slice q4 bs.length c4] 33)) 41 1
    have N : (w.alloc (.cells #[.int .i64 0, .slice q1 us.length c1, .slice q2 nw c2, .slice q3 nh c3, .slice q4 bs.length c4] 33)).heap.size = w.heap.size + 1 := by simp
    rw [N] at E
    have BE : Below (w.alloc (.cells #[.int .i64 0, .slice q1 us.length c1, .slice q2 nw c2, .slice q3 nh c3, .slice q4 bs.length c4] 33)).heap.size (w.alloc (.cells #[.int .i64 0, .slice q1 us.length c1, .slice q2 nw c2, .slice q3 nh c3, .slice q4 bs.length c4] 33)) ((w.alloc (.cells #[.int .i64 0, .slice q1 us.length c1, .slice q2 nw c2, .slice q3 nh c3, .slice q4 bs.length c4] 33)).alloc (.cells #[] 41)) := (Below.refl _ _).alloc (Nat.le_refl _) _
    have SR := (R1.out.on BE).rdc.src (P := Try.prog) Try.underlying28
    go_wp2_with (at_builtin; refine wpList_append_row rfl _ _ rfl Try.underlying28 iii iiz0 iiz1 iiz2 (by kernel_rfl) E SR ?b1 ?b2 ?_)
    case b1 => unfold maxLen; omega
    (try case b2 => omega)
    intro q9 k9 w9 own9 grow9 fr9
    have B9 : Below w.heap.size w w9 := (B1.out.trans (BE.mono B1.out.size)).grown grow9 (by simp; omega) (by intro g hg; simp [Value.ownBlock] at hg; omega)
    have F9 : ∀ g, (Value.slice q9 us.length k9).ownBlock = some g → w.heap.size < g := fun g hg => by
      rcases fr9 with e | e
      · rw [e] at hg; simp [Value.ownBlock] at hg; omega
      · rw [e] at hg; simp at hg; omega
    have RN := RdZ.of_own (kd := .u64) (zs := us) (S := p :: v.ownBlock.toList) own9 (fun g hg hm => by
      have := F9 g hg
      rcases List.mem_cons.1 hm with rfl | hm
      · omega
      · have := HV.out g (by simpa using hm); omega)
    have H9 := H.out.on B9
    clear own9 grow9 fr9 SR E BE
    go_wp2_with fail
    obtain ⟨e9, rfl⟩ : ∃ e9 : World, e9 = w9 := ⟨_, rfl⟩
    refine (WUint_full H9 hx0 (by omega) (by omega)).mono ?_
    rintro e wx ⟨rfl, rfl⟩
    go_wp2_with fail
    go_ret
    exact ⟨rfl, B9⟩
  by_cases k2 : kx = 1
  · have hb : It.bytes ⟨kx, us, nw, zw, nh, zh, bs⟩ = wides (wsOf nw zw) := by unfold It.bytes; rw [if_neg k1, if_pos k2]
    rw [hb, wides_len, wsOf_len] at hl
    try rw [hb]
    clear hb k1
    subst k2
    have E := own_empty (w.alloc (.cells #[.int .i64 1, .slice q1 us.length c1, .slice q2 nw c2, .slice q3 nh c3, .slice q4 bs.length c4] 33)) 44 4
    have N : (w.alloc (.cells #[.int .i64 1, .slice q1 us.length c1, .slice q2 nw c2, .slice q3 nh c3, .slice q4 bs.length c4] 33)).heap.size = w.heap.size + 1 := by simp
    rw [N] at E
    have BE : Below (w.alloc (.cells #[.int .i64 1, .slice q1 us.length c1, .slice q2 nw c2, .slice q3 nh c3, .slice q4 bs.length c4] 33)).heap.size (w.alloc (.cells #[.int .i64 1, .slice q1 us.length c1, .slice q2 nw c2, .slice q3 nh c3, .slice q4 bs.length c4] 33)) ((w.alloc (.cells #[.int .i64 1, .slice q1 us.length c1, .slice q2 nw c2, .slice q3 nh c3, .slice q4 bs.length c4] 33)).alloc (.cells #[] 44)) := (Below.refl _ _).alloc (Nat.le_refl _) _
    have SR := (R2.out.on BE).rdc.src (P := Try.prog) Try.underlying29
    go_wp2_with (at_builtin; refine wpList_append_row rfl _ _ rfl Try.underlying29 jji jjz0 jjz1 jjz2 (by kernel_rfl) E SR ?b1 ?b2 ?_)
    case b1 => unfold maxLen; omega
    (try case b2 => omega)
    intro q9 k9 w9 own9 grow9 fr9
    have B9 : Below w.heap.size w w9 := (B1.out.trans (BE.mono B1.out.size)).grown grow9 (by simp; omega) (by intro g hg; simp [Value.ownBlock] at hg; omega)
    have F9 : ∀ g, (Value.slice q9 nw k9).ownBlock = some g → w.heap.size < g := fun g hg => by
      rcases fr9 with e | e
      · rw [e] at hg; simp [Value.ownBlock] at hg; omega
      · rw [e] at hg; simp at hg; omega
    have RN := RdZ.of_own (kd := .u64) (zs := zw) (S := p :: v.ownBlock.toList) own9 (fun g hg hm => by
      have := F9 g hg
      rcases List.mem_cons.1 hm with rfl | hm
      · omega
      · have := HV.out g (by simpa using hm); omega)
    have H9 := H.out.on B9
    clear own9 grow9 fr9 SR E BE
    go_wp2_with fail
    obtain ⟨e9, rfl⟩ : ∃ e9 : World, e9 = w9 := ⟨_, rfl⟩
    refine (WWide_full H9 hx0 (by omega) (by omega)).mono ?_
    rintro e wx ⟨rfl, rfl⟩
    go_wp2_with fail
    go_ret
    exact ⟨rfl, B9⟩
  by_cases k3 : kx = 2
  · have hz : zh.length = nh * 32 := by obtain ⟨_, _, _, e2, _⟩ := R3.out; exact e2
    have hb : It.bytes ⟨kx, us, nw, zw, nh, zh, bs⟩ = (hsOf nh zh).flatten := by unfold It.bytes; rw [if_neg k1, if_neg k2, if_pos k3]
    rw [hb, hsOf_flat hz] at hl
    try rw [hb]
    clear hb k1 k2
    subst k3
    have E := own_empty (w.alloc (.cells #[.int .i64 2, .slice q1 us.length c1, .slice q2 nw c2, .slice q3 nh c3, .slice q4 bs.length c4] 33)) 47 32
    have N : (w.alloc (.cells #[.int .i64 2, .slice q1 us.length c1, .slice q2 nw c2, .slice q3 nh c3, .slice q4 bs.length c4] 33)).heap.size = w.heap.size + 1 := by simp
    rw [N] at E
    have BE : Below (w.alloc (.cells #[.int .i64 2, .slice q1 us.length c1, .slice q2 nw c2, .slice q3 nh c3, .slice q4 bs.length c4] 33)).heap.size (w.alloc (.cells #[.int .i64 2, .slice q1 us.length c1, .slice q2 nw c2, .slice q3 nh c3, .slice q4 bs.length c4] 33)) ((w.alloc (.cells #[.int .i64 2, .slice q1 us.length c1, .slice q2 nw c2, .slice q3 nh c3, .slice q4 bs.length c4] 33)).alloc (.cells #[] 47)) := (Below.refl _ _).alloc (Nat.le_refl _) _
    have SR := (R3.out.on BE).rdc.src (P := Try.prog) Try.underlying30
    go_wp2_with (at_builtin; refine wpList_append_row rfl _ _ rfl Try.underlying30 kki kkz0 kkz1 kkz2 (by kernel_rfl) E SR ?b1 ?b2 ?_)
    case b1 => unfold maxLen; omega
    (try case b2 => omega)
    intro q9 k9 w9 own9 grow9 fr9
    have B9 : Below w.heap.size w w9 := (B1.out.trans (BE.mono B1.out.size)).grown grow9 (by simp; omega) (by intro g hg; simp [Value.ownBlock] at hg; omega)
    have F9 : ∀ g, (Value.slice q9 nh k9).ownBlock = some g → w.heap.size < g := fun g hg => by
      rcases fr9 with e | e
      · rw [e] at hg; simp [Value.ownBlock] at hg; omega
      · rw [e] at hg; simp at hg; omega
    have RN := RdZ.of_own (kd := .u8) (zs := zh) (S := p :: v.ownBlock.toList) own9 (fun g hg hm => by
      have := F9 g hg
      rcases List.mem_cons.1 hm with rfl | hm
      · omega
      · have := HV.out g (by simpa using hm); omega)
    have H9 := H.out.on B9
    clear own9 grow9 fr9 SR E BE
    go_wp2_with fail
    obtain ⟨e9, rfl⟩ : ∃ e9 : World, e9 = w9 := ⟨_, rfl⟩
    refine (WHash_full H9 hx0 (by omega) (by omega)).mono ?_
    rintro e wx ⟨rfl, rfl⟩
    go_wp2_with fail
    go_ret
    exact ⟨rfl, B9⟩
  have hb : It.bytes ⟨kx, us, nw, zw, nh, zh, bs⟩ = blobs bs := by unfold It.bytes; rw [if_neg k1, if_neg k2, if_neg k3]
  rw [hb] at hl
  try rw [hb]
  clear hb
  have e1 : (kx == 0) = false := by simpa using k1
  have e2 : (kx == 1) = false := by simpa using k2
  have e3 : (kx == 2) = false := by simpa using k3
  clear k1 k2 k3
  go_wp2_with fail
  refine (Parts_any R4.out l1 l2).mono ?_
  rintro e w9 ⟨v9, vs, rfl, P9⟩
  have B9 := B1.out.trans (P9.below.mono B1.out.size)
  have H9 := H.out.on B9
  have RB := parts_rdl P9
  go_wp2_with fail
  obtain ⟨e9, rfl⟩ : ∃ e9 : World, e9 = w9 := ⟨_, rfl⟩
  refine (WBlob_full H9 hx0 (RB.sub (fun _ h => by cases h)) l1 l2 hl).mono ?_
  rintro e wx ⟨rfl, rfl⟩
  go_wp2_with fail
  go_ret
  exact ⟨rfl, B9⟩
end Go.Proofs.Ytigpiejjblfenaa
