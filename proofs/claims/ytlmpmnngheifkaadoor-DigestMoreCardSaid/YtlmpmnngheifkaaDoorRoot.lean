/-
  basculeref02.root.
-/
import Derived.Test.YtlmpmnngheifkaaDoorPower
namespace Go.Proofs.YtlmpmnngheifkaaDoor
open Go.RowKit
set_option maxRecDepth 100000

theorem wantM_len (p n : Nat) : (wantM p n).length = 6 := by simp [wantM, zero6]
structure RtS (w wr : World) (p n : Nat) : Prop where
  below : Below w.heap.size w wr
  want : SixAt wr w.heap.size (wantM p n)
theorem RtS.on {w wr w1 : World} {p n : Nat} (h : RtS w wr p n) (hb : Below wr.heap.size wr w1) : RtS w w1 p n := ⟨h.below.trans (hb.mono h.below.size), h.want.on hb⟩
theorem RtS.start (w : World) (p n : Nat) : RtS w ((((w.alloc (.cells (vc zero6).toArray 76)).setCells w.heap.size 0 (vc zero6))).setCell ⟨w.heap.size, n, none⟩ (.int .u64 (p : Int))) p n := by
  have h := (SixAt.new w zero6).put zero6_len zero6_len
  exact ⟨(below_setCells' _ (Nat.le_refl _) _ _ ((Below.refl _ _).alloc (Nat.le_refl _) _)).setCell (p := ⟨w.heap.size, n, none⟩) (Nat.le_refl _) _, h.store n p⟩
theorem six_laid {w1 : World} {P : List Nat} (hP : P.length = 6) : SixAt ((w1.alloc (.cells (vc zero6).toArray 76)).setCells w1.heap.size 0 (vc P)) w1.heap.size P ∧ Below w1.heap.size w1 ((w1.alloc (.cells (vc zero6).toArray 76)).setCells w1.heap.size 0 (vc P)) :=
  ⟨(SixAt.new w1 zero6).put zero6_len hP, below_setCells' _ (Nat.le_refl _) _ _ ((Below.refl _ _).alloc (Nat.le_refl _) _)⟩

set_option maxHeartbeats 4000000 in
theorem root_any (w : World) {p n : Nat} (hp : p < 18446744073709551616) (hn : n ≤ 3) :
    Calls Tryd.prog 41 #[.int .u64 (p : Int), .int .i64 (n : Int)] w fun e w' => e = .returned (.int .u32 ((rootM p n : Nat) : Int)) ∧ Below w.heap.size w w' := by
  have H0 := Lib.hid (RtS.start w p n)
  have hth0 := (SixAt.new w zero6).there zero6_len
  have hc0 := ((SixAt.new w zero6).put zero6_len zero6_len).cell (i := n) (by rw [zero6_len]; omega)
  have hf0 := ((SixAt.new w zero6).put zero6_len zero6_len).free n
  obtain ⟨sv, hsv⟩ : ∃ v, ((zero6.getD n 0 : Nat) : Int) = v := ⟨_, rfl⟩
  rw [hsv] at hc0
  clear hsv
  have n0 : (0 : Int) ≤ (n : Int) := by omega
  have n6 : (n : Int) < 6 := by omega
  clear hp
  go_enter Tryd.func41, Tryd.ntmps41
  go_wp2_with fail
  generalize ((w.alloc (.cells (vc zero6).toArray 76)).setCells w.heap.size 0 (vc zero6)).setCell ⟨w.heap.size, n, none⟩ (.int .u64 (p : Int)) = W0 at *
  clear hth0 hc0 hf0
  go_loopw [5, 7] (fun xv iv wr => ∃ b x : Nat, iv = .int .i64 ((b : Int) - 1) ∧ b ≤ 38 ∧ xv = .int .u64 (x : Int) ∧ Hid (rootGo p n b x = rootGo p n 38 0) ∧ Hid (RtS w wr p n)) (fun _ iv _ => (intOf iv + 1).toNat)
  case atStart => exact ⟨38, 0, rfl, by omega, rfl, rfl, H0⟩
  case round =>
    clear H0
    obtain ⟨b1, x, rfl, hb, rfl, hR, hP⟩ := hrel
    cases b1 with
    | zero =>
      have hR0 : rootGo p n 0 x = rootGo p n 38 0 := hR.out
      have e : ((rootM p n : Nat) : Int) = (x : Int) % 4294967296 := by
        show ((rootGo p n 38 0 % 4294967296 : Nat) : Int) = _
        rw [← hR0]
        show ((x % 4294967296 : Nat) : Int) = _
        omega
      have E := Lib.hid e
      have HB := Lib.hid hP.out.below
      have ew : IntKind.u32.wrap ((x : Int) % 4294967296) = (x : Int) % 4294967296 := by rw [IntKind.wrap_u32]; omega
      have tm : Int.tmod (x : Int) 4294967296 = (x : Int) % 4294967296 := Int.tmod_eq_emod_of_nonneg (by omega)
      clear e hR hR0 hP
      go_wp2_with fail
      go_ret
      exact ⟨by rw [E.out]; rfl, HB.out⟩
    | succ b =>
      have b0 : (0 : Int) ≤ (b : Int) := by omega
      have ei : ((b + 1 : Nat) : Int) - 1 = (b : Int) := by omega
      rw [ei]
      clear ei
      obtain ⟨y, hy⟩ : ∃ y, (x + 2 ^ b) % 18446744073709551616 = y := ⟨_, rfl⟩
      have hyl : y < 18446744073709551616 := by omega
      have hyw : IntKind.u64.wrap ((x : Int) + IntKind.u64.wrap (2 ^ b)) = (y : Int) := by
        rw [IntKind.wrap_u64, IntKind.wrap_u64, ← hy]
        have e : ((2 ^ b : Nat) : Int) = (2 : Int) ^ b := Int.natCast_pow 2 b
        rw [← e]
        generalize 2 ^ b = t
        omega
      have hzl := powM_len y n
      obtain ⟨z, hz⟩ : ∃ z, powM y n = z := ⟨_, rfl⟩
      obtain ⟨f, hf⟩ : ∃ f, fitsM z (wantM p n) 6 = f := ⟨_, rfl⟩
      have HR2 : Hid (rootGo p n b (if f then y else x) = rootGo p n 38 0) := by
        have h : rootGo p n (b + 1) x = rootGo p n 38 0 := hR.out
        unfold rootGo at h
        rw [hy, hz, hf] at h
        exact h
      have HZ := Lib.hid hz
      have HF := Lib.hid hf
      rw [hz] at hzl
      clear hR hy hz hf
      go_wp2_with fail
      refine (power_any _ hyl hn).mono ?_
      rintro e w1 ⟨rfl, hb1⟩
      rw [HZ.out]
      obtain ⟨h5, b5⟩ := six_laid (w1 := w1) hzl
      have hth1 := (SixAt.new w1 zero6).there zero6_len
      have H1 : Hid (RtS w ((w1.alloc (.cells (vc zero6).toArray 76)).setCells w1.heap.size 0 (vc z)) p n ∧ SixAt ((w1.alloc (.cells (vc zero6).toArray 76)).setCells w1.heap.size 0 (vc z)) w1.heap.size z) := ⟨hP.out.on (hb1.trans (b5.mono hb1.size)), h5⟩
      clear hb1 h5 b5 hP hyw
      go_wp2_with fail
      generalize (w1.alloc (.cells (vc zero6).toArray 76)).setCells w1.heap.size 0 (vc z) = wz at *
      clear hth1
      go_loopw [10, 11] (fun fv kv wr => ∃ k : Nat, kv = .int .i64 ((k : Int) - 1) ∧ k ≤ 6 ∧ fv = .bool true ∧ Hid (fitsM z (wantM p n) k = f) ∧ Hid (RtS w wr p n ∧ SixAt wr w1.heap.size z)) (fun _ kv _ => (intOf kv + 1).toNat)
      case atStart => exact ⟨6, rfl, by omega, rfl, HF, H1⟩
      case round =>
        clear H1 HF
        obtain ⟨k1, rfl, hk, rfl, hF, hQ⟩ := hrel
        cases k1 with
        | zero =>
          have hft : f = true := by rw [← hF.out]; rfl
          subst hft
          have HN := Lib.hid hQ.out.1
          clear hQ hF
          go_wp2_with fail
          refine ⟨⟨b, y, by go_num, by omega, rfl, HR2, HN⟩, by simp [intOf]⟩
        | succ k =>
          have k0 : (0 : Int) ≤ (k : Int) := by omega
          have k6 : (k : Int) < 6 := by omega
          have ei : ((k + 1 : Nat) : Int) - 1 = (k : Int) := by omega
          rw [ei]
          clear ei
          have q1 := hQ.out.2.cell (i := k) (by omega)
          have q2 := hQ.out.1.want.cell (i := k) (by rw [wantM_len]; omega)
          have hFk : (if z.getD k 0 = (wantM p n).getD k 0 then fitsM z (wantM p n) k else Nat.blt (z.getD k 0) ((wantM p n).getD k 0)) = f := hF.out
          obtain ⟨zv, hzv⟩ : ∃ v, z.getD k 0 = v := ⟨_, rfl⟩
          obtain ⟨wv, hwv⟩ : ∃ v, (wantM p n).getD k 0 = v := ⟨_, rfl⟩
          rw [hzv] at q1 hFk
          rw [hwv] at q2 hFk
          have HQ : Hid (RtS w wr.drew p n ∧ SixAt wr.drew w1.heap.size z) := ⟨hQ.out.1.on (Below.refl _ _).drew, hQ.out.2⟩
          have HQQ : Hid (RtS w wr.drew.drew p n ∧ SixAt wr.drew.drew w1.heap.size z) := ⟨(hQ.out.1.on (Below.refl _ _).drew).on (Below.refl _ _).drew, hQ.out.2⟩
          have Q := Lib.hid (And.intro q1 q2)
          clear hzv hwv q1 q2 hQ hF
          by_cases he : zv = wv
          · have hne : ((zv : Int) != (wv : Int)) = false := by rw [bne_eq_false_iff_eq]; omega
            rw [if_pos he] at hFk
            have HFk := Lib.hid hFk
            clear hFk he
            go_wp2_with fail
            refine wp_region_held_drew (S := fun W => W.cell? ⟨w1.heap.size, k, none⟩ = some (.int .u64 (zv : Int)) ∧ W.cell? ⟨w.heap.size, k, none⟩ = some (.int .u64 (wv : Int))) (by kernel_rfl) (Q.out) (fun h0 => ?_)
            refine wpAnyH_take (i := 0) (v := ?_) (by rw [List.getElem?_toArray]; rfl) (by kernel_rfl) (by kernel_rfl) (by kernel_rfl) (by exact fun _ _ _ h => h) (Or.inl ⟨by rfl, ?_⟩) h0 ?_
            rotate_left
            · intro W hW
              go_simp
              all_goals with_reducible rfl
            try simp only [Act.put, List.setIfInBounds_toArray, List.set_cons_zero, List.set_cons_succ]
            refine wpAnyH_take (i := 1) (v := ?_) (by rw [List.getElem?_toArray]; rfl) (by kernel_rfl) (by kernel_rfl) (by kernel_rfl) (by exact fun _ _ _ h => h) (Or.inl ⟨by rfl, ?_⟩) h0 ?_
            rotate_left
            · intro W hW
              go_simp
              all_goals with_reducible rfl
            try simp only [Act.put, List.setIfInBounds_toArray, List.set_cons_zero, List.set_cons_succ]
            refine wpAnyH_take (i := 2) (v := ?_) (by rw [List.getElem?_toArray]; rfl) (by kernel_rfl) (by kernel_rfl) (by kernel_rfl) (by exact fun _ _ _ h => h) (Or.inl ⟨by rfl, ?_⟩) h0 ?_
            rotate_left
            · intro W hW
              obtain ⟨f1, f2⟩ := hW
              go_simp
              all_goals with_reducible rfl
            try simp only [Act.put, List.setIfInBounds_toArray, List.set_cons_zero, List.set_cons_succ]
            refine wpAnyH_take (i := 3) (v := ?_) (by rw [List.getElem?_toArray]; rfl) (by kernel_rfl) (by kernel_rfl) (by kernel_rfl) (by exact fun _ _ _ h => h) (Or.inl ⟨by rfl, ?_⟩) h0 ?_
            rotate_left
            · intro W hW
              go_simp
              all_goals with_reducible rfl
            try simp only [Act.put, List.setIfInBounds_toArray, List.set_cons_zero, List.set_cons_succ]
            refine wpAnyH_take (i := 4) (v := ?_) (by rw [List.getElem?_toArray]; rfl) (by kernel_rfl) (by kernel_rfl) (by kernel_rfl) (by exact fun _ _ _ h => h) (Or.inl ⟨by rfl, ?_⟩) h0 ?_
            rotate_left
            · intro W hW
              go_simp
              all_goals with_reducible rfl
            try simp only [Act.put, List.setIfInBounds_toArray, List.set_cons_zero, List.set_cons_succ]
            refine wpAnyH_take (i := 5) (v := ?_) (by rw [List.getElem?_toArray]; rfl) (by kernel_rfl) (by kernel_rfl) (by kernel_rfl) (by exact fun _ _ _ h => h) (Or.inl ⟨by rfl, ?_⟩) h0 ?_
            rotate_left
            · intro W hW
              obtain ⟨f1, f2⟩ := hW
              go_simp
              all_goals with_reducible rfl
            try simp only [Act.put, List.setIfInBounds_toArray, List.set_cons_zero, List.set_cons_succ]
            refine wpAnyH_take (i := 6) (v := ?_) (by rw [List.getElem?_toArray]; rfl) (by kernel_rfl) (by kernel_rfl) (by kernel_rfl) (by exact fun _ _ _ h => h) (Or.inl ⟨by rfl, ?_⟩) h0 ?_
            rotate_left
            · intro W hW
              go_simp
              all_goals with_reducible rfl
            try simp only [Act.put, List.setIfInBounds_toArray, List.set_cons_zero, List.set_cons_succ]
            refine wpAnyH_done (by kernel_rfl) ?_ _
            go_wp2_with fail
            refine ⟨⟨k, by go_num, by omega, rfl, HFk, HQ⟩, by simp [intOf]⟩
          · have hne : ((zv : Int) != (wv : Int)) = true := by rw [bne_iff_ne]; omega
            rw [if_neg he] at hFk
            have hd : decide ((zv : Int) < (wv : Int)) = f := by
              rw [← hFk, Bool.eq_iff_iff, decide_eq_true_iff, Nat.blt_eq]
              omega
            clear hFk he
            go_wp2_with fail
            refine wp_region_held_drew (S := fun W => W.cell? ⟨w1.heap.size, k, none⟩ = some (.int .u64 (zv : Int)) ∧ W.cell? ⟨w.heap.size, k, none⟩ = some (.int .u64 (wv : Int))) (by kernel_rfl) (Q.out) (fun h0 => ?_)
            refine wpAnyH_take (i := 0) (v := ?_) (by rw [List.getElem?_toArray]; rfl) (by kernel_rfl) (by kernel_rfl) (by kernel_rfl) (by exact fun _ _ _ h => h) (Or.inl ⟨by rfl, ?_⟩) h0 ?_
            rotate_left
            · intro W hW
              go_simp
              all_goals with_reducible rfl
            try simp only [Act.put, List.setIfInBounds_toArray, List.set_cons_zero, List.set_cons_succ]
            refine wpAnyH_take (i := 1) (v := ?_) (by rw [List.getElem?_toArray]; rfl) (by kernel_rfl) (by kernel_rfl) (by kernel_rfl) (by exact fun _ _ _ h => h) (Or.inl ⟨by rfl, ?_⟩) h0 ?_
            rotate_left
            · intro W hW
              go_simp
              all_goals with_reducible rfl
            try simp only [Act.put, List.setIfInBounds_toArray, List.set_cons_zero, List.set_cons_succ]
            refine wpAnyH_take (i := 2) (v := ?_) (by rw [List.getElem?_toArray]; rfl) (by kernel_rfl) (by kernel_rfl) (by kernel_rfl) (by exact fun _ _ _ h => h) (Or.inl ⟨by rfl, ?_⟩) h0 ?_
            rotate_left
            · intro W hW
              obtain ⟨f1, f2⟩ := hW
              go_simp
              all_goals with_reducible rfl
            try simp only [Act.put, List.setIfInBounds_toArray, List.set_cons_zero, List.set_cons_succ]
            refine wpAnyH_take (i := 3) (v := ?_) (by rw [List.getElem?_toArray]; rfl) (by kernel_rfl) (by kernel_rfl) (by kernel_rfl) (by exact fun _ _ _ h => h) (Or.inl ⟨by rfl, ?_⟩) h0 ?_
            rotate_left
            · intro W hW
              go_simp
              all_goals with_reducible rfl
            try simp only [Act.put, List.setIfInBounds_toArray, List.set_cons_zero, List.set_cons_succ]
            refine wpAnyH_take (i := 4) (v := ?_) (by rw [List.getElem?_toArray]; rfl) (by kernel_rfl) (by kernel_rfl) (by kernel_rfl) (by exact fun _ _ _ h => h) (Or.inl ⟨by rfl, ?_⟩) h0 ?_
            rotate_left
            · intro W hW
              go_simp
              all_goals with_reducible rfl
            try simp only [Act.put, List.setIfInBounds_toArray, List.set_cons_zero, List.set_cons_succ]
            refine wpAnyH_take (i := 5) (v := ?_) (by rw [List.getElem?_toArray]; rfl) (by kernel_rfl) (by kernel_rfl) (by kernel_rfl) (by exact fun _ _ _ h => h) (Or.inl ⟨by rfl, ?_⟩) h0 ?_
            rotate_left
            · intro W hW
              obtain ⟨f1, f2⟩ := hW
              go_simp
              all_goals with_reducible rfl
            try simp only [Act.put, List.setIfInBounds_toArray, List.set_cons_zero, List.set_cons_succ]
            refine wpAnyH_take (i := 6) (v := ?_) (by rw [List.getElem?_toArray]; rfl) (by kernel_rfl) (by kernel_rfl) (by kernel_rfl) (by exact fun _ _ _ h => h) (Or.inl ⟨by rfl, ?_⟩) h0 ?_
            rotate_left
            · intro W hW
              go_simp
              all_goals with_reducible rfl
            try simp only [Act.put, List.setIfInBounds_toArray, List.set_cons_zero, List.set_cons_succ]
            refine wpAnyH_done (by kernel_rfl) ?_ _
            go_wp2_with fail
            refine wp_region_held_drew (S := fun W => W.cell? ⟨w1.heap.size, k, none⟩ = some (.int .u64 (zv : Int)) ∧ W.cell? ⟨w.heap.size, k, none⟩ = some (.int .u64 (wv : Int))) (by kernel_rfl) (Q.out) (fun h0 => ?_)
            refine wpAnyH_take (i := 0) (v := ?_) (by rw [List.getElem?_toArray]; rfl) (by kernel_rfl) (by kernel_rfl) (by kernel_rfl) (by exact fun _ _ _ h => h) (Or.inl ⟨by rfl, ?_⟩) h0 ?_
            rotate_left
            · intro W hW
              go_simp
              all_goals with_reducible rfl
            try simp only [Act.put, List.setIfInBounds_toArray, List.set_cons_zero, List.set_cons_succ]
            refine wpAnyH_take (i := 1) (v := ?_) (by rw [List.getElem?_toArray]; rfl) (by kernel_rfl) (by kernel_rfl) (by kernel_rfl) (by exact fun _ _ _ h => h) (Or.inl ⟨by rfl, ?_⟩) h0 ?_
            rotate_left
            · intro W hW
              go_simp
              all_goals with_reducible rfl
            try simp only [Act.put, List.setIfInBounds_toArray, List.set_cons_zero, List.set_cons_succ]
            refine wpAnyH_take (i := 2) (v := ?_) (by rw [List.getElem?_toArray]; rfl) (by kernel_rfl) (by kernel_rfl) (by kernel_rfl) (by exact fun _ _ _ h => h) (Or.inl ⟨by rfl, ?_⟩) h0 ?_
            rotate_left
            · intro W hW
              obtain ⟨f1, f2⟩ := hW
              go_simp
              all_goals with_reducible rfl
            try simp only [Act.put, List.setIfInBounds_toArray, List.set_cons_zero, List.set_cons_succ]
            refine wpAnyH_take (i := 3) (v := ?_) (by rw [List.getElem?_toArray]; rfl) (by kernel_rfl) (by kernel_rfl) (by kernel_rfl) (by exact fun _ _ _ h => h) (Or.inl ⟨by rfl, ?_⟩) h0 ?_
            rotate_left
            · intro W hW
              go_simp
              all_goals with_reducible rfl
            try simp only [Act.put, List.setIfInBounds_toArray, List.set_cons_zero, List.set_cons_succ]
            refine wpAnyH_take (i := 4) (v := ?_) (by rw [List.getElem?_toArray]; rfl) (by kernel_rfl) (by kernel_rfl) (by kernel_rfl) (by exact fun _ _ _ h => h) (Or.inl ⟨by rfl, ?_⟩) h0 ?_
            rotate_left
            · intro W hW
              go_simp
              all_goals with_reducible rfl
            try simp only [Act.put, List.setIfInBounds_toArray, List.set_cons_zero, List.set_cons_succ]
            refine wpAnyH_take (i := 5) (v := ?_) (by rw [List.getElem?_toArray]; rfl) (by kernel_rfl) (by kernel_rfl) (by kernel_rfl) (by exact fun _ _ _ h => h) (Or.inl ⟨by rfl, ?_⟩) h0 ?_
            rotate_left
            · intro W hW
              obtain ⟨f1, f2⟩ := hW
              go_simp
              all_goals with_reducible rfl
            try simp only [Act.put, List.setIfInBounds_toArray, List.set_cons_zero, List.set_cons_succ]
            refine wpAnyH_take (i := 6) (v := ?_) (by rw [List.getElem?_toArray]; rfl) (by kernel_rfl) (by kernel_rfl) (by kernel_rfl) (by exact fun _ _ _ h => h) (Or.inl ⟨by rfl, ?_⟩) h0 ?_
            rotate_left
            · intro W hW
              go_simp
              all_goals with_reducible rfl
            try simp only [Act.put, List.setIfInBounds_toArray, List.set_cons_zero, List.set_cons_succ]
            refine wpAnyH_take (i := 7) (v := ?_) (by rw [List.getElem?_toArray]; rfl) (by kernel_rfl) (by kernel_rfl) (by kernel_rfl) (by exact fun _ _ _ h => h) (Or.inl ⟨by rfl, ?_⟩) h0 ?_
            rotate_left
            · intro W hW
              go_simp
              all_goals with_reducible rfl
            try simp only [Act.put, List.setIfInBounds_toArray, List.set_cons_zero, List.set_cons_succ]
            refine wpAnyH_done (by kernel_rfl) ?_ _
            cases f with
            | false =>
              have hlt : ¬ zv < wv := by simpa using hd
              clear hd
              go_wp2_with fail
              exact ⟨⟨b, x, by go_num, by omega, rfl, HR2, HQQ.out.1⟩, by simp [intOf]⟩
            | true =>
              have hlt : zv < wv := by simpa using hd
              clear hd
              go_wp2_with fail
              exact ⟨⟨b, y, by go_num, by omega, rfl, HR2, HQQ.out.1⟩, by simp [intOf]⟩
end Go.Proofs.YtlmpmnngheifkaaDoor
