/-
  digest.Print.
-/
import Derived.Test.YtlmpmnngheifkaaDoorParse
import Derived.Test.YtlmpmnngheifkaaDoorDgKnows
namespace Go.Proofs.YtlmpmnngheifkaaDoor
open Go.RowKit
set_option maxRecDepth 100000

@[go_sem ↓] theorem Tryd.zero_txt (w : World) : (zeroValue 66).run Tryd.prog w = .ok (.agg (hc zero64).toArray) w := by kernel_rfl
def hexS : ByteArray := ⟨#[48, 49, 50, 51, 52, 53, 54, 55, 56, 57, 97, 98, 99, 100, 101, 102]⟩
theorem hex_at : ∀ n : Fin 16, ((hexS[n.val]'(n.isLt)).toNat : Int) = hxd (n.val : Int) := by decide +kernel
theorem and_15 : ∀ x : Fin 256, bits .and .u8 (x.val : Int) 15 = ((x.val % 16 : Nat) : Int) := by decide +kernel
theorem idx32 (w : World) {F : List Int} {i : Nat} (hi : i < 32) (hF : F.length = 32) : (Instr.index 26 (.agg (hc F).toArray) (.int .i64 (i : Int))).run Tryd.prog w = .ok (.int .u8 (F.getD i 0)) w := by
  have h2 : (i : Int) < 32 := by omega
  have hl : (hc F)[i]? = some (.int .u8 (F.getD i 0)) := by simp [hc, List.getD, show i < F.length by omega]
  have e : (i : Int).toNat = i := by omega
  have hsz : (sizeOf 5).run Tryd.prog w = .ok 1 w := by kernel_rfl
  simp [Instr.index, asIntOf, run_underlying Tryd.underlying26, h2, hsz, part, hl, go_sem]
  try (intro h; omega)
theorem idxHex (w : World) {z : Int} (h0 : 0 ≤ z) (h1 : z < 16) : (Instr.index 9 (.string ⟨#[48, 49, 50, 51, 52, 53, 54, 55, 56, 57, 97, 98, 99, 100, 101, 102]⟩) (.int .u8 z)).run Tryd.prog w = .ok (.int .u8 (hxd z)) w := by
  obtain ⟨n, rfl⟩ : ∃ n : Nat, z = (n : Int) := ⟨z.toNat, by omega⟩
  have hn : n < 16 := by omega
  have h := run_index_string (P := Tryd.prog) w 9 hexS .u8 (n : Int) Tryd.underlying9
  rw [dif_pos ⟨by omega, by show (n : Int) < 16; omega⟩] at h
  refine h.trans ?_
  have := hex_at ⟨n, hn⟩
  exact congrArg (fun z => Result.ok (Value.int .u8 z) w) this
theorem and15 {x : Int} (h0 : 0 ≤ x) (h1 : x < 256) : bits .and .u8 x 15 = x % 16 := by
  have := and_15 ⟨x.toNat, by omega⟩
  simp only at this
  rw [Int.toNat_of_nonneg h0] at this
  rw [this]
  omega
/-- The first i bytes, written. -/
def qf (F : List Int) (i j : Nat) : Int := if j < 2 * i then (prt F).getD j 0 else 0
theorem qf_step {F : List Int} {i : Nat} (hi : i < F.length) (j : Nat) : updK (updK (qf F i) (2 * i) (hxd (F.getD i 0 / 16))) (2 * i + 1) (hxd (F.getD i 0 % 16)) j = qf F (i + 1) j := by
  have hg := prt_get F i hi
  by_cases h1 : j = 2 * i + 1
  · subst h1; rw [updK_same]; unfold qf; rw [if_pos (by omega), hg.2]
  · rw [updK_ne _ _ h1]
    by_cases h2 : j = 2 * i
    · subst h2; rw [updK_same]; unfold qf; rw [if_pos (by omega), hg.1]
    · rw [updK_ne _ _ h2]
      unfold qf
      by_cases h3 : j < 2 * i
      · rw [if_pos h3, if_pos (by omega)]
      · rw [if_neg h3, if_neg (by omega)]
structure PrS (w wr : World) (F : List Int) (i : Nat) : Prop where
  below : Below w.heap.size w wr
  row : RwK .u8 wr (w.heap.size + 1) 64 66 (qf F i)
theorem PrS.start (w : World) (F : List Int) : PrS w ((w.alloc (.cells (hc F).toArray 26)).alloc (.cells (hc zero64).toArray 66)) F 0 := by
  refine ⟨((Below.refl _ _).alloc (Nat.le_refl _) _).alloc (by simp) _, ?_⟩
  have h := RwK.newL .u8 (w.alloc (.cells (hc F).toArray 26)) zero64 66
  rw [World.size_alloc] at h
  refine RwK.same (n := 64) h (fun j hj => ?_)
  have : ∀ j : Fin 64, zero64.getD j.val 0 = 0 := by decide
  rw [show qf F 0 j = 0 by simp [qf]]
  exact this ⟨j, hj⟩
theorem PrS.put {w wr : World} {F : List Int} {i : Nat} (h : PrS w wr F i) (hi : i < 32) (hF : F.length = 32) : PrS w ((wr.setCell ⟨w.heap.size + 1, 2 * i, none⟩ (.int .u8 (hxd (F.getD i 0 / 16)))).setCell ⟨w.heap.size + 1, 2 * i + 1, none⟩ (.int .u8 (hxd (F.getD i 0 % 16)))) F (i + 1) :=
  ⟨(h.below.setCell (p := ⟨w.heap.size + 1, 2 * i, none⟩) (by show w.heap.size ≤ w.heap.size + 1; omega) _).setCell (p := ⟨w.heap.size + 1, 2 * i + 1, none⟩) (by show w.heap.size ≤ w.heap.size + 1; omega) _,
    ((h.row.store (j := 2 * i) (by omega) _).store (j := 2 * i + 1) (by omega) _).same fun j _ => qf_step (by omega) j⟩
theorem PrS.rd {w wr : World} {F : List Int} (h : PrS w wr F 32) (hF : F.length = 32) : Rd wr (.slice (some ⟨w.heap.size + 1, 0, none⟩) 64 64) (prt F) := by
  have hl : (prt F).length = 64 := by rw [prt_len, hF]
  refine ⟨_, 64, by rw [hl], .inr ⟨w.heap.size + 1, 0, rfl, fun j hj => ?_⟩⟩
  rw [Nat.zero_add, h.row.cell j (by omega)]
  simp only [qf]
  rw [if_pos (by omega)]

set_option maxHeartbeats 4000000 in
theorem Print_any (w : World) {F : List Int} (hF : F.length = 32) (bF : Bytes F) :
    Calls Tryd.prog 24 #[.agg (hc F).toArray] w fun e w' => e = .returned (.string (strOfNums (prt F))) ∧ Below w.heap.size w w' := by
  have H0 := Lib.hid (PrS.start w F)
  have hrow := ((HashAt.new w F).alloc (.cells (hc zero64).toArray 66)).row hF
  have hlF : (hc F).length = 32 := by rw [hc_len, hF]
  have HF := Lib.hid hF
  have BF := Lib.hid bF
  clear bF
  go_enter Tryd.func24, Tryd.ntmps24
  go_wp2_with fail
  generalize (w.alloc (.cells (hc F).toArray 26)).alloc (.cells (hc zero64).toArray 66) = W0 at *
  clear hrow
  go_loopw [7] (fun iv wr => ∃ i : Nat, iv = .int .i64 i ∧ i ≤ 32 ∧ Hid (PrS w wr F i)) (fun iv _ => 32 - (intOf iv).toNat)
  case atStart => exact ⟨0, rfl, by omega, H0⟩
  case round =>
    clear H0
    obtain ⟨i, rfl, hi, hP⟩ := hrel
    by_cases hlt : i < 32
    · have i0 : (0 : Int) ≤ (i : Int) := by omega
      have i2 : (i : Int) < 32 := by omega
      have hb : 0 ≤ F.getD i 0 ∧ F.getD i 0 < 256 := by
        have h : F.getD i 0 ∈ F := by have := HF.out; simp [List.getD, show i < F.length by omega]
        exact BF.out _ h
      have HN := Lib.hid (hP.out.put hlt HF.out)
      have hix := fun W => idx32 W hlt HF.out
      obtain ⟨x, hx⟩ : ∃ x, F.getD i 0 = x := ⟨_, rfl⟩
      rw [hx] at HN hix hb
      clear hx
      obtain ⟨hb0, hb1⟩ := hb
      have wi : IntKind.i64.wrap (2 * (i : Int)) = 2 * (i : Int) := by rw [IntKind.wrap_i64]; omega
      have wj : IntKind.i64.wrap (2 * (i : Int) + 1) = 2 * (i : Int) + 1 := by rw [IntKind.wrap_i64]; omega
      have tn1 : (2 * (i : Int)).toNat = 2 * i := by omega
      have tn2 : (2 * (i : Int) + 1).toNat = 2 * i + 1 := by omega
      have n1 : 0 ≤ 2 * (i : Int) := by omega
      have n2 : 2 * (i : Int) < 64 := by omega
      have n3 : 0 ≤ 2 * (i : Int) + 1 := by omega
      have n4 : 2 * (i : Int) + 1 < 64 := by omega
      go_wp2_with fail
      refine wp_region_held_drew (S := fun _ => True) (by kernel_rfl) (trivial) (fun h0 => ?_)
      refine wpAnyH_take (i := 0) (v := ?_) (by rw [List.getElem?_toArray]; rfl) (by kernel_rfl) (by kernel_rfl) (by kernel_rfl) (by exact fun _ _ _ h => h) (Or.inl ⟨by rfl, ?_⟩) h0 ?_
      rotate_left
      · intro W hW
        go_simp
        all_goals with_reducible rfl
      try simp only [Act.put, List.setIfInBounds_toArray, List.set_cons_zero, List.set_cons_succ]
      refine wpAnyH_take (i := 1) (v := ?_) (by rw [List.getElem?_toArray]; rfl) (by kernel_rfl) (by kernel_rfl) (by kernel_rfl) (by exact fun _ _ _ h => h) (Or.inl ⟨by rfl, ?_⟩) h0 ?_
      rotate_left
      · intro W hW
        go_simp
        all_goals with_reducible rfl
      try simp only [Act.put, List.setIfInBounds_toArray, List.set_cons_zero, List.set_cons_succ]
      refine wpAnyH_take (i := 2) (v := ?_) (by rw [List.getElem?_toArray]; rfl) (by kernel_rfl) (by kernel_rfl) (by kernel_rfl) (by exact fun _ _ _ h => h) (Or.inl ⟨by rfl, ?_⟩) h0 ?_
      rotate_left
      · intro W hW
        go_simp
        all_goals with_reducible rfl
      try simp only [Act.put, List.setIfInBounds_toArray, List.set_cons_zero, List.set_cons_succ]
      refine wpAnyH_take (i := 3) (v := ?_) (by rw [List.getElem?_toArray]; rfl) (by kernel_rfl) (by kernel_rfl) (by kernel_rfl) (by exact fun _ _ _ h => h) (Or.inl ⟨by rfl, ?_⟩) h0 ?_
      rotate_left
      · intro W hW
        go_simp
        all_goals with_reducible rfl
      try simp only [Act.put, List.setIfInBounds_toArray, List.set_cons_zero, List.set_cons_succ]
      refine wpAnyH_take (i := 4) (v := ?_) (by rw [List.getElem?_toArray]; rfl) (by kernel_rfl) (by kernel_rfl) (by kernel_rfl) (by exact fun _ _ _ h => h) (Or.inl ⟨by rfl, ?_⟩) h0 ?_
      rotate_left
      · intro W hW
        go_simp
        all_goals with_reducible rfl
      try simp only [Act.put, List.setIfInBounds_toArray, List.set_cons_zero, List.set_cons_succ]
      refine wpAnyH_take (i := 5) (v := ?_) (by rw [List.getElem?_toArray]; rfl) (by kernel_rfl) (by kernel_rfl) (by kernel_rfl) (by exact fun _ _ _ h => h) (Or.inl ⟨by rfl, ?_⟩) h0 ?_
      rotate_left
      · intro W hW
        go_simp
        all_goals with_reducible rfl
      try simp only [Act.put, List.setIfInBounds_toArray, List.set_cons_zero, List.set_cons_succ]
      refine wpAnyH_take (i := 6) (v := ?_) (by rw [List.getElem?_toArray]; rfl) (by kernel_rfl) (by kernel_rfl) (by kernel_rfl) (by exact fun _ _ _ h => h) (Or.inl ⟨by rfl, ?_⟩) h0 ?_
      rotate_left
      · intro W hW
        go_simp
        all_goals with_reducible rfl
      try simp only [Act.put, List.setIfInBounds_toArray, List.set_cons_zero, List.set_cons_succ]
      refine wpAnyH_take (i := 7) (v := ?_) (by rw [List.getElem?_toArray]; rfl) (by kernel_rfl) (by kernel_rfl) (by kernel_rfl) (by exact fun _ _ _ h => h) (Or.inl ⟨by rfl, ?_⟩) h0 ?_
      rotate_left
      · intro W hW
        have e7 := idxHex W (z := x / 16) (by omega) (by omega)
        go_simp
        all_goals with_reducible rfl
      try simp only [Act.put, List.setIfInBounds_toArray, List.set_cons_zero, List.set_cons_succ]
      refine wpAnyH_take (i := 8) (v := ?_) (by rw [List.getElem?_toArray]; rfl) (by kernel_rfl) (by kernel_rfl) (by kernel_rfl) (by exact fun _ _ _ h => h) (Or.inl ⟨by rfl, ?_⟩) h0 ?_
      rotate_left
      · intro W hW
        go_simp
        all_goals with_reducible rfl
      try simp only [Act.put, List.setIfInBounds_toArray, List.set_cons_zero, List.set_cons_succ]
      refine wpAnyH_take (i := 9) (v := ?_) (by rw [List.getElem?_toArray]; rfl) (by kernel_rfl) (by kernel_rfl) (by kernel_rfl) (by exact fun _ _ _ h => h) (Or.inl ⟨by rfl, ?_⟩) h0 ?_
      rotate_left
      · intro W hW
        have e9 := and15 hb0 hb1
        go_simp
        all_goals with_reducible rfl
      try simp only [Act.put, List.setIfInBounds_toArray, List.set_cons_zero, List.set_cons_succ]
      refine wpAnyH_take (i := 10) (v := ?_) (by rw [List.getElem?_toArray]; rfl) (by kernel_rfl) (by kernel_rfl) (by kernel_rfl) (by exact fun _ _ _ h => h) (Or.inl ⟨by rfl, ?_⟩) h0 ?_
      rotate_left
      · intro W hW
        have e10 := idxHex W (z := x % 16) (by omega) (by omega)
        go_simp
        all_goals with_reducible rfl
      try simp only [Act.put, List.setIfInBounds_toArray, List.set_cons_zero, List.set_cons_succ]
      refine wpAnyH_take (i := 11) (v := ?_) (by rw [List.getElem?_toArray]; rfl) (by kernel_rfl) (by kernel_rfl) (by kernel_rfl) (by exact fun _ _ _ h => h) (Or.inl ⟨by rfl, ?_⟩) h0 ?_
      rotate_left
      · intro W hW
        go_simp
        all_goals with_reducible rfl
      try simp only [Act.put, List.setIfInBounds_toArray, List.set_cons_zero, List.set_cons_succ]
      refine wpAnyH_ready (rs := [12]) (by kernel_rfl) (by simp) ?_
      refine AllReadyH.cons (by rw [List.getElem?_toArray]; rfl) (fun K hK => ?_) AllReadyH.nil
      rw [if_pos (by rfl)]
      have cA := hP.out.row.cell (2 * i) (by omega)
      have fA := hP.out.row.free (2 * i)
      go_wp2_with fail
      refine hK.out _ _ (trivial) (fun h12 => ?_)
      clear hK K
      try simp only [Act.put, List.setIfInBounds_toArray, List.set_cons_zero, List.set_cons_succ]
      refine wpAnyH_take (i := 13) (v := ?_) (by rw [List.getElem?_toArray]; rfl) (by kernel_rfl) (by kernel_rfl) (by kernel_rfl) (by exact fun _ _ _ h => h) (Or.inl ⟨by rfl, ?_⟩) h12 ?_
      rotate_left
      · intro W hW
        go_simp
        all_goals with_reducible rfl
      try simp only [Act.put, List.setIfInBounds_toArray, List.set_cons_zero, List.set_cons_succ]
      refine wpAnyH_ready (rs := [14]) (by kernel_rfl) (by simp) ?_
      refine AllReadyH.cons (by rw [List.getElem?_toArray]; rfl) (fun K hK => ?_) AllReadyH.nil
      rw [if_pos (by rfl)]
      have R1 := hP.out.row.store (j := 2 * i) (by omega) (hxd (x / 16))
      have cB := R1.cell (2 * i + 1) (by omega)
      have fB := R1.free (2 * i + 1)
      clear cA fA
      go_wp2_with fail
      refine hK.out _ _ (trivial) (fun h14 => ?_)
      clear hK K
      try simp only [Act.put, List.setIfInBounds_toArray, List.set_cons_zero, List.set_cons_succ]
      refine wpAnyH_done (by kernel_rfl) ?_ _
      go_wp2_with fail
      refine ⟨⟨i + 1, by go_num, by omega, ?_⟩, by simp [intOf]; omega⟩
      exact ⟨HN.out.below.drew, HN.out.row.drew⟩
    · obtain rfl : i = 32 := by omega
      have ca := (hP.out.rd HF.out).str (P := Tryd.prog) Tryd.underlying22 Tryd.underlying5 Tryd.underlying9
      have HB := Lib.hid hP.out.below
      clear hP
      go_wp2_with fail
      go_ret
      exact ⟨rfl, HB.out⟩
end Go.Proofs.YtlmpmnngheifkaaDoor
