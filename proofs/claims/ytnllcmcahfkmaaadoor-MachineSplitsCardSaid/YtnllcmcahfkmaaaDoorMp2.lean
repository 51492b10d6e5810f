/-
  SHA-256, plain: the padding, the blocks, the digest.; The walk of digest.end.; The walk of digest.mix.; A law for '==' on arrays of integers, of whatever program.; Rows of cells in the midst of a block, as a walk reads and writes them; a hash's cells; '==' on hashes.; What stands in memory within digest.Sum, plain.; Frames, plain.; The walk of digest.Frame.; Rows of one's own, of whatever element.
-/
import Derived.WalkSmall
import Derived.Test.YtnllcmcahfkmaaaDoorRows
import Derived.WalkKit
import Derived.DeepKeys3
import Derived.Deep.MidRow
import Derived.Deep.WholeRow
import Derived.Lib.Hide
import Derived.Lib.SmallJoins
import Derived.StillTailTactics
import Derived.BigQuiet
import Derived.Deep.QuietTactic
import Derived.Test.YtnllcmcahfkmaaaDoorMp1
namespace Go.Proofs.YtnllcmcahfkmaaaDoor
open Go.RowKit

/-- How many blocks. -/
def nbk (L : Nat) : Nat := L / 64 + (if 64 < L % 64 + 9 then 2 else 1)
/-- The padded string. -/
def padF (xs : List Int) (j : Nat) : Int :=
  if j < xs.length then xs.getD j 0 else if j = xs.length then 128 else if j + 8 < 64 * nbk xs.length then 0 else (be8 (8 * (xs.length : Int))).getD (j + 8 - 64 * nbk xs.length) 0
def blkF (xs : List Int) (i j : Nat) : Int := padF xs (64 * i + j)
def iv : St8 := ⟨1779033703, 3144134277, 1013904242, 2773480762, 1359893119, 2600822924, 528734635, 1541459225⟩
def shaSt (xs : List Int) : Nat → St8
  | 0 => iv
  | i + 1 => (shaSt xs i).mix (blkF xs i)
def be4 (n : Int) : List Int := [n / 16777216 % 256, n / 65536 % 256, n / 256 % 256, n % 256]
def St8.out (s : St8) : List Int := be4 s.a ++ be4 s.b ++ be4 s.c ++ be4 s.d ++ be4 s.e ++ be4 s.f ++ be4 s.g ++ be4 s.h
/-- The digest. -/
def sha (xs : List Int) : List Int := (shaSt xs (nbk xs.length)).out
theorem sha_len (xs : List Int) : (sha xs).length = 32 := rfl
theorem be4_bytes (n : Int) : Bytes (be4 n) := by
  intro x hx
  simp only [be4, List.mem_cons, List.not_mem_nil, or_false] at hx
  omega
theorem Bytes.append {xs ys : List Int} (h : Bytes xs) (k : Bytes ys) : Bytes (xs ++ ys) := by
  intro x hx
  rcases List.mem_append.1 hx with a | a
  · exact h x a
  · exact k x a
theorem sha_bytes (xs : List Int) : Bytes (sha xs) :=
  (((((((be4_bytes _).append (be4_bytes _)).append (be4_bytes _)).append (be4_bytes _)).append (be4_bytes _)).append (be4_bytes _)).append (be4_bytes _)).append (be4_bytes _)
theorem Bytes.getD {xs : List Int} (h : Bytes xs) (j : Nat) : 0 ≤ xs.getD j 0 ∧ xs.getD j 0 < 256 := by
  by_cases hj : j < xs.length
  · have : xs.getD j 0 = xs[j] := by simp [List.getD, hj]
    rw [this]; exact h _ (List.getElem_mem hj)
  · have : xs.getD j 0 = 0 := by simp [List.getD, hj]
    rw [this]; omega
theorem padF_bytes {xs : List Int} (h : Bytes xs) (j : Nat) : 0 ≤ padF xs j ∧ padF xs j < 256 := by
  unfold padF
  split
  · exact h.getD j
  · split
    · omega
    · split
      · omega
      · exact (be8_bytes _).getD _
theorem padF_low {xs : List Int} {j : Nat} (h : j < xs.length) : padF xs j = xs.getD j 0 := if_pos h

/-- The last one or two blocks, as the program lays them. -/
def endF (rs : List Int) (L n : Nat) : Nat → Int := put8 (updK (cpf (fun _ => 0) 0 rs) rs.length 128) (n - 8) (8 * (L : Int))
theorem put8_mod (f : Nat → Int) (off : Nat) (n : Int) : put8 f off (n % 18446744073709551616) = put8 f off n := by
  unfold put8
  rw [show n % 18446744073709551616 / 4294967296 % 4294967296 = n / 4294967296 % 4294967296 by omega, show n % 18446744073709551616 % 4294967296 = n % 4294967296 by omega]
theorem endF_pad {xs rs : List Int} {q n : Nat} (hq : q = xs.length / 64) (hr : rs = xs.drop (64 * q)) (hn : n = 64 * (if 64 < xs.length % 64 + 9 then 2 else 1)) {j : Nat} (hj : j < n) :
    endF rs xs.length n j = padF xs (64 * q + j) := by
  have hl : rs.length = xs.length - 64 * q := by rw [hr]; simp
  have hP : 64 * nbk xs.length = 64 * q + n := by unfold nbk; rw [hn, hq]; omega
  have h64 : n = 64 ∨ n = 128 := by rw [hn]; split <;> omega
  have hfit : rs.length + 9 ≤ n := by rw [hn]; split <;> omega
  have hxl : xs.length = 64 * q + rs.length := by omega
  unfold endF padF
  rw [hP]
  by_cases h8 : n - 8 ≤ j
  · obtain ⟨k, rfl⟩ : ∃ k, j = n - 8 + k := ⟨j - (n - 8), by omega⟩
    rw [put8_in _ _ _ (by omega), if_neg (by omega), if_neg (by omega), if_neg (by omega)]
    congr 1
    omega
  · rw [put8_out _ (by omega)]
    by_cases e : j = rs.length
    · subst e
      rw [updK_same, if_neg (by omega), if_pos (by omega)]
    · rw [updK_ne _ _ e]
      by_cases hlt : j < rs.length
      · rw [cpf_in (by omega) (by omega), if_pos (by omega), hr]
        simp [List.getD]
      · rw [cpf_out (by omega), if_neg (by omega), if_neg (by omega), if_pos (by omega)]
end Go.Proofs.YtnllcmcahfkmaaaDoor
namespace Go.Proofs.YtnllcmcahfkmaaaDoor
open Go.RowKit
set_option maxRecDepth 100000

theorem Tryd.size_u8 : (Tryd.prog.info? 5).map (·.size) = some 1 := by kernel_rfl

set_option maxHeartbeats 2000000 in
theorem end_any {w : World} {b : Nat} (h : RwK .u8 w b 128 108 (fun _ => 0)) {v : Value} {rs : List Int} (hr : Rd w v rs) (h64 : rs.length < 64) (L : Nat) :
    Calls Tryd.prog 48 #[.pointer (some ⟨b, 0, none⟩), v, .int .i64 L] w fun e w' => e = .returned (.int .i64 (64 * (if 64 < rs.length + 9 then 2 else 1 : Nat) : Nat)) ∧ RwK .u8 w' b 128 108 (endF rs L (64 * (if 64 < rs.length + 9 then 2 else 1))) ∧ Chg w w' [b] := by
  obtain ⟨q, c, rfl, hx⟩ := hr
  have HN := Lib.hid (show rs.length = Nat.min rs.length 128 from (Nat.min_eq_left (by omega)).symm)
  have HP : Hid (0 < rs.length → (some ⟨b, 0, none⟩ : Option Addr) = some ⟨b, 0, none⟩ ∧ ∃ ad, q = some ad ∧ ∀ j, j < rs.length → w.cell? (ad.add j) = some (.int .u8 (rs.getD j 0))) := by
    intro h0
    rcases hx with rfl | ⟨b', off, rfl, hc⟩
    · simp at h0
    · exact ⟨rfl, _, rfl, fun j hj => by rw [addr_add]; exact hc j hj⟩
  have H := Lib.hid h
  clear h hx
  by_cases hlt : 64 < rs.length + 9
  all_goals
    simp only [hlt, if_true, if_false]
    go_enter Tryd.func48, Tryd.ntmps48
    go_wp2_with (with_reducible refine wpList_copy_rw rfl _ _ _ _ rfl 5 Tryd.underlying67 Tryd.size_u8 _ _ _ _ _ _ rfl rfl H.out 0 rs HN.out HP.out (by omega) ?_)
    intro w1 h1 k1
    have c1 := h1.cell rs.length (by omega)
    have f1 := h1.free rs.length
    have H1 := Lib.hid (h1.store (j := rs.length) (by omega) 128)
    have K1 := Lib.hid (k1.setCell (p := ⟨b, rs.length, none⟩) (.inl (by simp)) (.int .u8 128))
    clear h1 k1
    go_wp2_with fail
    refine (put64_any H1.out (by omega) (by omega) (by omega) _).mono ?_
    rintro e w2 ⟨rfl, h2, k2⟩
    have H2 := Lib.hid h2
    have K2 := Lib.hid (K1.out.trans k2 (fun _ h _ => h))
    clear h2 k2
    go_wp2_with fail
    go_ret
    refine ⟨rfl, ?_, K2.out⟩
    have h2 := H2.out
    rw [show IntKind.u64.wrap (IntKind.u64.wrap (L : Int) * 8) = (8 * (L : Int)) % 18446744073709551616 by rw [IntKind.wrap_u64, IntKind.wrap_u64]; omega, put8_mod] at h2
    exact h2
theorem end_two {w : World} {b : Nat} (h : RwK .u8 w b 128 108 (fun _ => 0)) {v : Value} {rs : List Int} (hr : Rd w v rs) (h64 : rs.length < 64) (L : Nat) (hlt : 64 < rs.length + 9) :
    Calls Tryd.prog 48 #[.pointer (some ⟨b, 0, none⟩), v, .int .i64 L] w fun e w' => e = .returned (.int .i64 128) ∧ RwK .u8 w' b 128 108 (endF rs L 128) ∧ Chg w w' [b] := by
  have := end_any h hr h64 L
  simp only [hlt, if_true] at this
  exact this
theorem end_one {w : World} {b : Nat} (h : RwK .u8 w b 128 108 (fun _ => 0)) {v : Value} {rs : List Int} (hr : Rd w v rs) (h64 : rs.length < 64) (L : Nat) (hlt : ¬ 64 < rs.length + 9) :
    Calls Tryd.prog 48 #[.pointer (some ⟨b, 0, none⟩), v, .int .i64 L] w fun e w' => e = .returned (.int .i64 64) ∧ RwK .u8 w' b 128 108 (endF rs L 64) ∧ Chg w w' [b] := by
  have := end_any h hr h64 L
  simp only [hlt, if_false] at this
  exact this
end Go.Proofs.YtnllcmcahfkmaaaDoor
namespace Go.Proofs.YtnllcmcahfkmaaaDoor
open Go.RowKit
set_option maxRecDepth 100000

theorem zero64u (w : World) : (zeroValue 119).run Tryd.prog w = .ok (.agg (Array.replicate 64 (.int .u32 0))) w := by kernel_rfl


/-- What stands in memory: the state handed in, the result, the words. -/
structure MxSt (w wr : World) (S : St8) (f : Nat → Int) : Prop where
  below : Below w.heap.size w wr
  rs : RwK .u32 wr w.heap.size 8 107 (fun i => S.lst.getD i 0)
  rr : RwK .u32 wr (w.heap.size + 1) 8 107 (fun i => [(0 : Int), 0, 0, 0, 0, 0, 0, 0].getD i 0)
  rw : RwK .u32 wr (w.heap.size + 1 + 1) 64 119 f

theorem MxSt.step {w wr : World} {S : St8} {f : Nat → Int} (h : MxSt w wr S f) {j : Nat} (hj : j < 64) (v : Int) : MxSt w (wr.setCell ⟨w.heap.size + 1 + 1, j, none⟩ (.int .u32 v)) S (updK f j v) :=
  ⟨h.below.setCell (by simp; omega) _, h.rs.other (by simp; omega) _, h.rr.other (by simp) _, h.rw.store hj v⟩
theorem MxSt.drew {w wr : World} {S : St8} {f : Nat → Int} (h : MxSt w wr S f) : MxSt w wr.drew S f := ⟨h.below.drew, h.rs, h.rr, h.rw⟩
theorem MxSt.start (w : World) (S : St8) : MxSt w (((w.alloc (.cells #[.int .u32 S.a, .int .u32 S.b, .int .u32 S.c, .int .u32 S.d, .int .u32 S.e, .int .u32 S.f, .int .u32 S.g, .int .u32 S.h] 107)).alloc
    (.cells #[.int .u32 0, .int .u32 0, .int .u32 0, .int .u32 0, .int .u32 0, .int .u32 0, .int .u32 0, .int .u32 0] 107)).alloc (.cells (Array.replicate 64 (.int .u32 0)) 119)) S (fun _ => 0) := by
  refine ⟨?_, ?_, ?_, ?_⟩
  · exact (((Below.refl _ _).alloc (Nat.le_refl _) _).alloc (by simp) _).alloc (by simp; omega) _
  · exact ((RwK.newL .u32 w S.lst 107).alloc _).alloc _
  · have := (RwK.newL .u32 (w.alloc (.cells #[.int .u32 S.a, .int .u32 S.b, .int .u32 S.c, .int .u32 S.d, .int .u32 S.e, .int .u32 S.f, .int .u32 S.g, .int .u32 S.h] 107)) [(0 : Int), 0, 0, 0, 0, 0, 0, 0] 107).alloc (.cells (Array.replicate 64 (.int .u32 0)) 119)
    simp only [World.size_alloc] at this
    exact this
  · have := RwK.new .u32 ((w.alloc (.cells #[.int .u32 S.a, .int .u32 S.b, .int .u32 S.c, .int .u32 S.d, .int .u32 S.e, .int .u32 S.f, .int .u32 S.g, .int .u32 S.h] 107)).alloc
      (.cells #[.int .u32 0, .int .u32 0, .int .u32 0, .int .u32 0, .int .u32 0, .int .u32 0, .int .u32 0, .int .u32 0] 107)) 64 119
    simp only [World.size_alloc] at this
    exact this
theorem MxSt.drewN {w wr : World} {S : St8} {f : Nat → Int} (h : MxSt w wr S f) (n : Nat) : MxSt w (wr.drewN n) S f := by
  have b : Below wr.heap.size wr (wr.drewN n) := below_drewN (Below.refl _ _) n
  exact ⟨below_drewN h.below n, h.rs.on b, h.rr.on b, h.rw.on b⟩
theorem MxSt.tab {w wr : World} {S : St8} {f : Nat → Int} (h : MxSt w wr S f) {g i : Nat} {v : Value} (hc : w.cell? ⟨g, i, none⟩ = some v) : wr.cell? ⟨g, i, none⟩ = some v := by
  rw [h.below.cell (p := ⟨g, i, none⟩) (World.block_lt_of_cell? w ⟨g, i, none⟩ hc)]; exact hc

set_option maxHeartbeats 4000000 in
theorem mix_any {w : World} (S : St8) {b off n c : Nat} {B : Nat → Int} (hn : 64 ≤ n) (hc : n ≤ c) (hB : ∀ i, i < 64 → w.cell? ⟨b, off + i, none⟩ = some (.int .u8 (B i))) (hb8 : ∀ i, i < 64 → 0 ≤ B i ∧ B i < 256)
    (hT : ∀ i, i < 64 → w.cell? ⟨0, i, none⟩ = some (.int .u32 (rt i))) :
    Calls Tryd.prog 47 #[.agg #[.int .u32 S.a, .int .u32 S.b, .int .u32 S.c, .int .u32 S.d, .int .u32 S.e, .int .u32 S.f, .int .u32 S.g, .int .u32 S.h], .slice (some ⟨b, off, none⟩) n c] w
      fun e w' => e = .returned (.agg #[.int .u32 (S.mix B).a, .int .u32 (S.mix B).b, .int .u32 (S.mix B).c, .int .u32 (S.mix B).d, .int .u32 (S.mix B).e, .int .u32 (S.mix B).f, .int .u32 (S.mix B).g, .int .u32 (S.mix B).h]) ∧ Below w.heap.size w w' := by
  have HB := Lib.hid hB
  have HB8 := Lib.hid hb8
  have HT := Lib.hid hT
  clear hB hb8 hT
  have hz := zero64u
  have h0 := Lib.hid (MxSt.start w S)
  go_enter Tryd.func47, Tryd.ntmps47
  go_wp2_with fail
  clear hz
  go_loopw [25] (fun iv wr => ∃ (i : Nat) (f : Nat → Int), iv = .int .i64 i ∧ i ≤ 16 ∧ Hid (MxSt w wr S f) ∧ Hid (∀ j, j < i → f j = W B j)) (fun iv _ => 16 - (intOf iv).toNat)
  case atStart => exact ⟨0, _, rfl, by omega, h0, fun j hj => by omega⟩
  case round =>
    clear h0
    obtain ⟨i, f, rfl, hi, hm, hf⟩ := hrel
    by_cases hlt : i < 16
    · have q (j : Nat) (hj : j < 64) : wr.cell? ⟨b, off + j, none⟩ = some (.int .u8 (B j)) := hm.out.tab (HB.out j hj)
      have c0 := q (4 * i) (by omega)
      have c1 := q (4 * i + 1) (by omega)
      have c2 := q (4 * i + 2) (by omega)
      have c3 := q (4 * i + 3) (by omega)
      obtain ⟨a0, b0⟩ := HB8.out (4 * i) (by omega)
      obtain ⟨a1, b1⟩ := HB8.out (4 * i + 1) (by omega)
      obtain ⟨a2, b2⟩ := HB8.out (4 * i + 2) (by omega)
      obtain ⟨a3, b3⟩ := HB8.out (4 * i + 3) (by omega)
      have cw := hm.out.rw.cell i (by omega)
      have fw := hm.out.rw.free i
      clear q
      have HN : Hid (MxSt w (wr.setCell ⟨w.heap.size + 1 + 1, i, none⟩ (.int .u32 (bits .or .u32 (bits .or .u32 (bits .or .u32 (B (4 * i) * 16777216) (B (4 * i + 1) * 65536)) (B (4 * i + 2) * 256)) (B (4 * i + 3))))).drew S (updK f i (W B i))) := by
        have := (hm.out.step (j := i) (by omega) (W B i)).drew
        rw [W_low B hlt] at this ⊢
        exact this
      have HF : Hid (∀ j, j < i + 1 → updK f i (W B i) j = W B j) := by
        intro j hj
        by_cases e : j = i
        · subst e; rw [updK_same]
        · rw [updK_ne _ _ e]; exact hf.out j (by omega)
      generalize B (4 * i) = x0 at c0 a0 b0 HN
      generalize B (4 * i + 1) = x1 at c1 a1 b1 HN
      generalize B (4 * i + 2) = x2 at c2 a2 b2 HN
      generalize B (4 * i + 3) = x3 at c3 a3 b3 HN
      generalize updK f i (W B i) = f' at HN HF
      go_wp2_with fail
      go_region
      go_wp2_with fail
      go_roundw
      case rel => exact ⟨i + 1, f', by go_num, by omega, HN, HF⟩
      case measure => simp [intOf]; omega
    · obtain rfl : i = 16 := by omega
      clear hlt hi
      have hm0 := hm
      have hf0 := hf
      go_wp2_with fail
      clear hm hf
      rw [show ((16 : Nat) : Int) = 16 from rfl]
      obtain ⟨w0, hw0⟩ : ∃ w0 : World, w0 = wr := ⟨_, rfl⟩
      rw [← hw0] at hm0 ⊢
      clear hw0
      go_loopw [7] (fun iv wr => ∃ (i : Nat) (f : Nat → Int), iv = .int .i64 i ∧ 16 ≤ i ∧ i ≤ 64 ∧ Hid (MxSt w wr S f) ∧ Hid (∀ j, j < i → f j = W B j)) (fun iv _ => 64 - (intOf iv).toNat)
      case atStart => exact ⟨16, _, rfl, by omega, by omega, hm0, hf0⟩
      case round =>
        clear hm0 hf0
        obtain ⟨i, f, rfl, hi0, hi, hm, hf⟩ := hrel
        by_cases hlt : i < 64
        · have cx := hm.out.rw.cell (i - 15) (by omega)
          have cy := hm.out.rw.cell (i - 2) (by omega)
          have cz := hm.out.rw.cell (i - 16) (by omega)
          have cv := hm.out.rw.cell (i - 7) (by omega)
          have cw := hm.out.rw.cell i (by omega)
          have fw := hm.out.rw.free i
          have e15 : ((i : Int) - 15).toNat = i - 15 := by omega
          have e2 : ((i : Int) - 2).toNat = i - 2 := by omega
          have e16 : ((i : Int) - 16).toNat = i - 16 := by omega
          have e7 : ((i : Int) - 7).toNat = i - 7 := by omega
          have HV := Lib.hid ((W_high B hi0).trans (nxt_cong (g := f) hi0 (fun j hj => (hf.out j hj).symm)))
          have HN := Lib.hid (fun v => (hm.out.step (j := i) hlt v).drew.drew)
          have HF : Hid (∀ j, j < i + 1 → updK f i (W B i) j = W B j) := by
            intro j hj
            by_cases e : j = i
            · subst e; rw [updK_same]
            · rw [updK_ne _ _ e]; exact hf.out j (by omega)
          go_wp2_with fail
          go_region
          go_wp2_with (go_at_call 55; refine (rot_any _ _ _).mono ?_; rintro e w' ⟨rfl, rfl⟩)
          go_region
          go_wp2_with fail
          go_roundw
          case rel => exact ⟨i + 1, updK f i (W B i), by go_num, by omega, by omega, by rw [HV.out]; exact HN.out _, HF⟩
          case measure => simp [intOf]; omega
        · obtain rfl : i = 64 := by omega
          clear hlt hi hi0
          have hm0 := hm
          have hf0 := hf
          clear hm hf
          have s0 := hm0.out.rs.cell 0 (by omega)
          have s1 := hm0.out.rs.cell 1 (by omega)
          have s2 := hm0.out.rs.cell 2 (by omega)
          have s3 := hm0.out.rs.cell 3 (by omega)
          have s4 := hm0.out.rs.cell 4 (by omega)
          have s5 := hm0.out.rs.cell 5 (by omega)
          have s6 := hm0.out.rs.cell 6 (by omega)
          have s7 := hm0.out.rs.cell 7 (by omega)
          simp only [St8.lst, List.getD_cons_zero, List.getD_cons_succ] at s0 s1 s2 s3 s4 s5 s6 s7
          go_wp2_with fail
          go_quiet (fail)
          have hm1 := Lib.hid (hm0.out.drewN nq)
          generalize wr.drewN nq = wq at hm1 ⊢
          clear hm0 s0 s1 s2 s3 s4 s5 s6 s7
          go_wp2_with fail
          rw [show ((64 : Nat) : Int) = 64 from rfl]
          go_loopw [123, 12, 13, 14, 15, 16, 17, 18, 19] (fun iv a b' c' d e f' g h wr => ∃ (i : Nat) (s : St8), iv = .int .i64 i ∧ i ≤ 64 ∧ Hid (s = S.rounds B i) ∧ a = .int .u32 s.a ∧ b' = .int .u32 s.b ∧ c' = .int .u32 s.c ∧ d = .int .u32 s.d ∧ e = .int .u32 s.e ∧ f' = .int .u32 s.f ∧ g = .int .u32 s.g ∧ h = .int .u32 s.h ∧ Hid (MxSt w wr S f)) (fun iv _ _ _ _ _ _ _ _ _ => 64 - (intOf iv).toNat)
          case atStart => exact ⟨0, S, rfl, by omega, rfl, rfl, rfl, rfl, rfl, rfl, rfl, rfl, rfl, hm1⟩
          case round =>
            clear hm1
            obtain ⟨i, s, rfl, hi, hs, rfl, rfl, rfl, rfl, rfl, rfl, rfl, rfl, hm⟩ := hrel
            by_cases hlt : i < 64
            · have cw := hm.out.rw.cell i hlt
              rw [hf0.out i hlt] at cw
              have ct := hm.out.tab (HT.out i hlt)
              have HS : Hid (s.rnd (rt i) (W B i) = S.rounds B (i + 1)) := by
                show _ = (S.rounds B i).rnd (rt i) (W B i)
                rw [← hs.out]
              generalize W B i = wi at cw HS
              generalize rt i = ki at ct HS
              obtain ⟨xa, xb, xc, xd, xe, xf, xg, xh⟩ := s
              simp only []
              go_wp2_with fail
              go_quiet (exact Calls.quiet_of_same (rot_any _ _ _))
              have hN := Lib.hid (hm.out.drewN nq)
              generalize wr.drewN nq = wz at hN ⊢
              clear cw ct hm
              go_wp2_with (go_at_call 55; refine (rot_any _ _ _).mono ?_; rintro e w' ⟨rfl, rfl⟩)
              go_roundw
              case rel => exact ⟨i + 1, _, by go_num, by omega, HS, rfl, rfl, rfl, rfl, rfl, rfl, rfl, rfl, hN⟩
              case measure => simp [intOf]; omega
            · obtain rfl : i = 64 := by omega
              have HM : Hid (S.add s = S.mix B) := by
                show _ = S.add (S.rounds B 64)
                rw [← hs.out]
              have s0 := hm.out.rs.cell 0 (by omega)
              have s1 := hm.out.rs.cell 1 (by omega)
              have s2 := hm.out.rs.cell 2 (by omega)
              have s3 := hm.out.rs.cell 3 (by omega)
              have s4 := hm.out.rs.cell 4 (by omega)
              have s5 := hm.out.rs.cell 5 (by omega)
              have s6 := hm.out.rs.cell 6 (by omega)
              have s7 := hm.out.rs.cell 7 (by omega)
              simp only [St8.lst, List.getD_cons_zero, List.getD_cons_succ] at s0 s1 s2 s3 s4 s5 s6 s7
              have r0 := hm.out.rr.cell 0 (by omega)
              have r1 := hm.out.rr.cell 1 (by omega)
              have r2 := hm.out.rr.cell 2 (by omega)
              have r3 := hm.out.rr.cell 3 (by omega)
              have r4 := hm.out.rr.cell 4 (by omega)
              have r5 := hm.out.rr.cell 5 (by omega)
              have r6 := hm.out.rr.cell 6 (by omega)
              have r7 := hm.out.rr.cell 7 (by omega)
              have f0 := hm.out.rr.free 0
              have f1 := hm.out.rr.free 1
              have f2 := hm.out.rr.free 2
              have f3 := hm.out.rr.free 3
              have f4 := hm.out.rr.free 4
              have f5 := hm.out.rr.free 5
              have f6 := hm.out.rr.free 6
              have f7 := hm.out.rr.free 7
              clear hs
              obtain ⟨xa, xb, xc, xd, xe, xf, xg, xh⟩ := s
              simp only []
              go_wp2_with fail
              refine bodyPost_ret (v := .agg #[.int .u32 ((S.a + xa) % 4294967296), .int .u32 ((S.b + xb) % 4294967296), .int .u32 ((S.c + xc) % 4294967296), .int .u32 ((S.d + xd) % 4294967296), .int .u32 ((S.e + xe) % 4294967296), .int .u32 ((S.f + xf) % 4294967296), .int .u32 ((S.g + xg) % 4294967296), .int .u32 ((S.h + xh) % 4294967296)]) (by simp [results, Tryd.results47, go_sem, r0, r1, r2, r3, r4, r5, r6, r7]) rfl ⟨?_, ?_⟩
              · rw [← HM.out]; rfl
              · have hb := hm.out.below
                repeat (first | with_reducible exact hb | with_reducible refine Below.setCell ?_ (by simp; try omega) _)
end Go.Proofs.YtnllcmcahfkmaaaDoor
namespace Go.Proofs.YtnllcmcahfkmaaaDoor
open Go.RowKit

theorem all_range_beq : ∀ (n : Nat) (xs ys : List Int), xs.length = n → ys.length = n → ((List.range' 0 n).all fun i => xs[i]? == ys[i]?) = (xs == ys) := by
  intro n xs ys hx hy
  rw [Bool.eq_iff_iff]
  simp only [List.all_eq_true, beq_iff_eq]
  constructor
  · intro h
    refine List.ext_getElem? fun i => ?_
    by_cases hi : i < n
    · exact h i (by simp [List.mem_range'_1]; omega)
    · rw [List.getElem?_eq_none (by omega), List.getElem?_eq_none (by omega)]
  · rintro rfl _ _; rfl

theorem run_equalIn_ints {P : Program} (w : World) (d : Nat) {t e : TypeId} {n : Nat} {k : IntKind} (ht : P.underlying t = some (.array n e)) (he : P.underlying e = some (.int k)) (hc : P.cellsOf e = 1) (xs ys : List Int) (hx : xs.length = n) (hy : ys.length = n) :
    (Op.equalIn (d + 2) t (.agg (xs.map (Value.int k)).toArray) (.agg (ys.map (Value.int k)).toArray)).run P w = .ok (xs == ys) w := by
  rw [← all_range_beq n xs ys hx hy]
  obtain ⟨i, hi⟩ := info_of_underlying he
  have hs := run_sizeOf w hi
  rw [hc] at hs
  rw [Op.equalIn]
  simp only [Sem.run_bind, run_underlying ht, Result.andThen_ok, hs]
  simp only [Std.Legacy.Range.forIn_eq_forIn_range', Std.Legacy.Range.size, Nat.sub_zero, Nat.add_one_sub_one, Nat.div_one, Nat.mul_one]
  have hb : ∀ j ∈ List.range' 0 n, j < n := fun j hj => by simp [List.mem_range'_1] at hj; omega
  generalize List.range' 0 n = is at hb ⊢
  induction is with
  | nil => simp
  | cons j is ih =>
    have hj := hb j (by simp)
    have hp : P.plainKey e = true := by unfold Program.plainKey; rw [he]
    have p1 : (part e (xs.map (Value.int k)).toArray j).run P w = .ok (.int k xs[j]) w := run_part_plain w hp (by simp [hx, hj])
    have p2 : (part e (ys.map (Value.int k)).toArray j).run P w = .ok (.int k ys[j]) w := run_part_plain w hp (by simp [hy, hj])
    have p3 := run_equalIn_int (P := P) w d e k k xs[j] ys[j] he
    simp only [List.forIn_cons, Sem.run_bind, p1, p2, p3, Result.andThen_ok]
    have ih' := ih fun y hy => hb y (by simp [hy])
    have e1 : (xs[j]? == ys[j]?) = (xs[j] == ys[j]) := by rw [List.getElem?_eq_getElem, List.getElem?_eq_getElem]; rfl
    simp only [List.all_cons, e1]
    cases xs[j] == ys[j]
    · simp
    · simpa using ih'
end Go.Proofs.YtnllcmcahfkmaaaDoor
namespace Go.Proofs.YtnllcmcahfkmaaaDoor
open Go.RowKit

/-- n cells of block b from offset o on. -/
def rowOf (w : World) (b o n : Nat) : List Value := match w.heap[b]? with
  | some (.cells cs _ _) => (cs.extract o (o + n)).toList
  | _ => []

theorem rowOf_block {w : World} {b : Nat} {cs : Array Value} {t : TypeId} {fr : Nat × Nat} (h : w.heap[b]? = some (.cells cs t fr)) (o n : Nat) : rowOf w b o n = (cs.extract o (o + n)).toList := by
  simp [rowOf, h]

@[simp, go_sem] theorem rowOf_drew (w : World) (b o n : Nat) : rowOf w.drew b o n = rowOf w b o n := rfl
@[simp, go_sem] theorem there_drew (w : World) (b o n : Nat) : w.drew.there b o n = w.there b o n := by simp

theorem range_rowOf (w : World) (b o n : Nat) : w.rangeAt b o (rowOf w b o n) := by
  intro j v hv
  unfold rowOf at hv
  split at hv
  · rename_i cs t fr h
    exact World.rangeAt_of_block h o n j v hv
  · simp at hv

theorem run_load_rowOf {P : Program} (w : World) (b o : Nat) (ty : TypeId) (d : TypeDesc) {n : Nat} (hu : P.underlying ty = some d) (hd : d.isRow = true) (hi : (P.info? ty).map (·.size) = some n) (hn : (rowOf w b o n).length = n) :
    (Instr.loadAt ty (.pointer (some ⟨b, o, none⟩))).run P w = .ok (.agg (rowOf w b o n).toArray) w :=
  run_loadAt_mid w b o ty _ d (range_rowOf w b o n) hu hd (by rw [hi, hn])

/-- The same load, kept shut: a walk would open it cell by cell. -/
def rowLoad (a : Addr) (n : Nat) : Sem (Array Value) := loadCellsFrom a 0 n #[]
@[go_sem ↓] theorem load32 (a : Addr) : loadCellsFrom a 0 32 #[] = rowLoad a 32 := rfl
@[go_sem] theorem run_rowLoad {P : Program} (w : World) (b o n : Nat) (hn : (rowOf w b o n).length = n) :
    (rowLoad ⟨b, o, none⟩ n).run P w = .ok (rowOf w b o n).toArray w := by
  have := run_loadCells_list (P := P) w ⟨b, o, none⟩ (rowOf w b o n) (fun j v hv => by rw [Addr.add_mid]; exact range_rowOf w b o n j v hv)
  rw [hn] at this
  exact this
def rowBuild (t : TypeId) (ps : Array (Nat × Value)) : Sem Value := Instr.build t ps

/-- A hash's cells. -/
def hc (F : List Int) : List Value := F.map (Value.int .u8)
@[go_sem] theorem hc_len (F : List Int) : (hc F).length = F.length := by simp [hc]
def zero32 : List Int := [0, 0, 0, 0, 0, 0, 0, 0, 0, 0, 0, 0, 0, 0, 0, 0, 0, 0, 0, 0, 0, 0, 0, 0, 0, 0, 0, 0, 0, 0, 0, 0]
@[go_sem] theorem zero32_len : zero32.length = 32 := by simp [zero32]
theorem hc_one (F : List Int) : (hc F).toArray.all (·.oneCell') = true := by
  rw [Array.all_eq_true_iff_forall_mem]
  intro v hv
  simp [hc] at hv
  obtain ⟨x, _, rfl⟩ := hv
  rfl

@[go_sem] theorem run_storeCells_hash {P : Program} (w : World) (b o : Nat) (F : List Int) (ht : w.there b o F.length) : (storeCells ⟨b, o, none⟩ (hc F) 0).run P w = .ok () (w.setCells b o (hc F)) := by
  have := run_storeCells_cells (P := P) b o (hc F) 0 w (fun j hj => by rw [hc_len] at hj; simpa using (ht j hj).1) (fun j hj => by rw [hc_len] at hj; simpa using (ht j hj).2) (fun v hv => (Array.all_eq_true_iff_forall_mem.1 (hc_one F)) v (by simpa using hv))
  simpa using this
@[go_sem ↓] theorem Tryd.build_hash (ps : Array (Nat × Value)) : Instr.build 43 ps = rowBuild 43 ps := rfl
@[go_sem] theorem Tryd.run_hash0 (w : World) : (rowBuild 43 #[]).run Tryd.prog w = .ok (.agg (hc zero32).toArray) w := by
  unfold rowBuild; kernel_rfl
@[go_sem ↓] theorem Tryd.zero_hash (w : World) : (zeroValue 43).run Tryd.prog w = .ok (.agg (hc zero32).toArray) w := by kernel_rfl
@[go_sem] theorem Tryd.eq_hash (w : World) (F G : List Int) (hF : F.length = 32) (hG : G.length = 32) : (Op.equalIn 10000 43 (.agg (hc F).toArray) (.agg (hc G).toArray)).run Tryd.prog w = .ok (F == G) w :=
  run_equalIn_ints (P := Tryd.prog) w 9998 Tryd.underlying43 Tryd.underlying5 (by kernel_rfl) F G hF hG

/-! ### What a store of many cells leaves -/
theorem setCells_block {b : Nat} {t : TypeId} {fr : Nat × Nat} : ∀ (vs : List Value) {o : Nat} {w : World} {pre mid post : List Value}, w.heap[b]? = some (.cells (pre ++ (mid ++ post)).toArray t fr) → pre.length = o → mid.length = vs.length →
    (w.setCells b o vs).heap[b]? = some (.cells (pre ++ (vs ++ post)).toArray t fr)
  | [], o, w, pre, mid, post, h, _, hm => by
    obtain rfl : mid = [] := by simpa using hm
    exact h
  | v :: vs, o, w, pre, [], post, h, _, hm => by simp at hm
  | v :: vs, o, w, pre, m :: mid, post, h, hp, hm => by
    have h1 : (w.setCell ⟨b, o, none⟩ v).heap[b]? = some (.cells ((pre ++ [v]) ++ (mid ++ post)).toArray t fr) := by
      rw [Joins.block_setCell h v]
      congr 2
      apply Array.ext'
      simp [hp.symm]
    have := setCells_block vs (o := o + 1) h1 (by simp [hp]) (by simpa using hm)
    rw [World.setCells, this]
    simp
theorem setCells_other {b c : Nat} (hne : c ≠ b) : ∀ (vs : List Value) (o : Nat) (w : World), (w.setCells b o vs).heap[c]? = w.heap[c]?
  | [], _, _ => rfl
  | v :: vs, o, w => by
    rw [World.setCells, setCells_other hne vs (o + 1) _, Below.heap_setCell _ _ _ _ hne]
theorem size_setCells (b : Nat) : ∀ (vs : List Value) (o : Nat) (w : World), (w.setCells b o vs).heap.size = w.heap.size
  | [], _, _ => rfl
  | v :: vs, o, w => by rw [World.setCells, size_setCells b vs (o + 1) _]; simp [World.setCell]
theorem below_setCells' {B : Nat} {a : World} (b : Nat) (hb : B ≤ b) : ∀ (vs : List Value) (o : Nat) {w : World}, Below B a w → Below B a (w.setCells b o vs)
  | [], _, _, h => h
  | v :: r, o, _, h => below_setCells' b hb r (o + 1) (h.setCell (p := ⟨b, o, none⟩) hb v)

/-- Block b of w holds the hash F. -/
def HashAt (w : World) (b : Nat) (F : List Int) : Prop := w.heap[b]? = some (.cells (hc F).toArray 43 (0, 0))
theorem HashAt.new (w : World) (F : List Int) : HashAt (w.alloc (.cells (hc F).toArray 43)) w.heap.size F := heap_alloc_last w _
theorem HashAt.row {w : World} {b : Nat} {F : List Int} (h : HashAt w b F) (hF : F.length = 32) : rowOf w b 0 32 = hc F := by
  rw [rowOf_block h]
  have : (hc F).length = 32 := by rw [hc_len, hF]
  simp [List.take_of_length_le (Nat.le_of_eq this)]
theorem HashAt.lt {w : World} {b : Nat} {F : List Int} (h : HashAt w b F) : b < w.heap.size := (Array.getElem?_eq_some_iff.1 h).1
theorem HashAt.on {w w1 : World} {b : Nat} {F : List Int} (h : HashAt w b F) (hb : Below w.heap.size w w1) : HashAt w1 b F := by
  have := h.lt
  unfold HashAt
  rw [hb.block _ this]; exact h
theorem HashAt.alloc {w : World} {b : Nat} {F : List Int} (h : HashAt w b F) (o : Obj) : HashAt (w.alloc o) b F := by
  unfold HashAt
  rw [Below.heap_alloc _ _ _ h.lt]; exact h

/-! ### A composite's cells -/
theorem list_fold_put (o : Nat) : ∀ (xs : List Value) (k : Nat) (pre mid post : List Value), pre.length = o + k → mid.length = xs.length →
    (xs.zipIdx k).foldl (fun (cs : Array Value) (p : Value × Nat) => cs.setIfInBounds (o + p.2) p.1) (pre ++ (mid ++ post)).toArray = (pre ++ (xs ++ post)).toArray
  | [], k, pre, mid, post, _, hm => by
    obtain rfl : mid = [] := by simpa using hm
    simp
  | x :: xs, k, pre, m :: mid, post, hp, hm => by
    have ih := list_fold_put o xs (k + 1) (pre ++ [x]) mid post (by simp; omega) (by simpa using hm)
    simp only [List.zipIdx_cons, List.foldl_cons]
    have e : (pre ++ (m :: mid ++ post)).toArray.setIfInBounds (o + k) x = (pre ++ [x] ++ (mid ++ post)).toArray := by
      apply Array.ext'
      simp [hp.symm]
    rw [e, ih]
    simp
  | x :: xs, k, pre, [], post, _, hm => by simp at hm

theorem fold_put (o n : Nat) (xs pre mid post : List Value) (hp : pre.length = o) (hm : mid.length = n) (hx : xs.length = n) :
    xs.toArray.zipIdx.foldl (fun (cs : Array Value) (p : Value × Nat) => cs.setIfInBounds (o + p.2) p.1) (pre ++ (mid ++ post)).toArray = (pre ++ (xs ++ post)).toArray := by
  have := list_fold_put o xs 0 pre mid post (by omega) (by omega)
  simpa using this
end Go.Proofs.YtnllcmcahfkmaaaDoor
namespace Go.Proofs.YtnllcmcahfkmaaaDoor
open Go.RowKit
set_option maxRecDepth 100000

/-- The slice v reads as the bytes xs, and has room for them. -/
def RdC (w : World) (v : Value) (xs : List Int) : Prop := ∃ q c, v = .slice q xs.length c ∧ xs.length ≤ c ∧ (xs = [] ∨ ∃ b off, q = some ⟨b, off, none⟩ ∧ ∀ i, i < xs.length → w.cell? ⟨b, off + i, none⟩ = some (.int .u8 (xs.getD i 0)))
theorem RdC.rd {w : World} {v : Value} {xs : List Int} (h : RdC w v xs) : Rd w v xs := by
  obtain ⟨q, c, e, _, h⟩ := h
  exact ⟨q, c, e, h⟩

/-- What digest.Sum reads: the table of the rounds. -/
def Tbl (w : World) : Prop := ∀ i, i < 64 → w.cell? ⟨0, i, none⟩ = some (.int .u32 (rt i))
theorem Tbl.pos {w : World} (h : Tbl w) : 0 < w.heap.size := World.block_lt_of_cell? w ⟨0, 0, none⟩ (h 0 (by omega))
theorem Tbl.on {w w' : World} {B : Nat} (h : Tbl w) (hb : Below B w w') (hB : 0 < B) : Tbl w' := fun i hi => by
  rw [World.cell?_of_block (w := w) (hb.block 0 hB)]; exact h i hi
theorem Tbl.chg {w w' : World} {S : List Nat} (h : Tbl w) (hc : Chg w w' S) (hS : 0 ∉ S) : Tbl w' := fun i hi => by
  rw [World.cell?_of_block (w := w) (hc.block 0 h.pos hS)]; exact h i hi

structure SmSt (w wr : World) (S : St8) (F : Nat → Int) : Prop where
  below : Below w.heap.size w wr
  rr : HashAt wr w.heap.size zero32
  rs : RwK .u32 wr (w.heap.size + 1) 8 107 (fun i => S.lst.getD i 0)
  rt : RwK .u8 wr (w.heap.size + 1 + 1) 128 108 F
theorem SmSt.on {w wr w1 : World} {S : St8} {F : Nat → Int} (h : SmSt w wr S F) (hb : Below wr.heap.size wr w1) : SmSt w w1 S F :=
  ⟨h.below.trans (hb.mono h.below.size), h.rr.on hb, h.rs.on hb, h.rt.on hb⟩
theorem HashAt.other {w : World} {b : Nat} {F : List Int} (h : HashAt w b F) {a : Addr} (ha : b ≠ a.block) (v : Value) : HashAt (w.setCell a v) b F := by
  unfold HashAt
  rw [Below.heap_setCell _ _ _ _ ha]; exact h
theorem HashAt.chg {w w' : World} {b : Nat} {F : List Int} {S : List Nat} (h : HashAt w b F) (hc : Chg w w' S) (hS : b ∉ S) : HashAt w' b F := by
  unfold HashAt
  rw [hc.block b h.lt hS]; exact h
theorem SmSt.put {w wr : World} {S : St8} {F : Nat → Int} (h : SmSt w wr S F) (T : St8) :
    SmSt w ((((((((wr.setCell ⟨w.heap.size + 1, 0, none⟩ (.int .u32 T.a)).setCell ⟨w.heap.size + 1, 1, none⟩ (.int .u32 T.b)).setCell ⟨w.heap.size + 1, 2, none⟩ (.int .u32 T.c)).setCell ⟨w.heap.size + 1, 3, none⟩ (.int .u32 T.d)).setCell ⟨w.heap.size + 1, 4, none⟩ (.int .u32 T.e)).setCell ⟨w.heap.size + 1, 5, none⟩ (.int .u32 T.f)).setCell ⟨w.heap.size + 1, 6, none⟩ (.int .u32 T.g)).setCell ⟨w.heap.size + 1, 7, none⟩ (.int .u32 T.h)) T F := by
  have hb := h.below
  have hr := h.rr
  have ht := h.rt
  refine ⟨?_, ?_, ?_, ?_⟩
  · repeat (first | with_reducible exact hb | with_reducible refine Below.setCell ?_ (by simp) _)
  · repeat (first | with_reducible exact hr | with_reducible refine HashAt.other ?_ (by simp) _)
  · refine ((((((((h.rs.store (j := 0) (by omega) T.a).store (j := 1) (by omega) T.b).store (j := 2) (by omega) T.c).store (j := 3) (by omega) T.d).store (j := 4) (by omega) T.e).store (j := 5) (by omega) T.f).store (j := 6) (by omega) T.g).store (j := 7) (by omega) T.h).same ?_
    intro i hi
    have e : i = 0 ∨ i = 1 ∨ i = 2 ∨ i = 3 ∨ i = 4 ∨ i = 5 ∨ i = 6 ∨ i = 7 := by omega
    rcases e with rfl | rfl | rfl | rfl | rfl | rfl | rfl | rfl <;> simp [updK, St8.lst]
  · repeat (first | with_reducible exact ht | with_reducible refine RwK.other ?_ (by simp) _)
theorem SmSt.tab {w wr : World} {S : St8} {F : Nat → Int} (h : SmSt w wr S F) (hT : Tbl w) : Tbl wr := hT.on h.below hT.pos
theorem SmSt.old {w wr : World} {S : St8} {F : Nat → Int} (h : SmSt w wr S F) {p : Addr} {v : Value} (hc : w.cell? p = some v) : wr.cell? p = some v := by
  rw [h.below.cell (World.block_lt_of_cell? w p hc)]; exact hc

theorem HashAt.there {w : World} {b : Nat} {G : List Int} (h : HashAt w b G) (hG : G.length = 32) : w.there b 0 32 := fun j hj => by
  refine ⟨?_, Joins.unfrozen_of_block h _⟩
  rw [cell_of_row _ _ _ _ _ _ h]
  simp [hc_len, hG, hj]
theorem HashAt.put {w : World} {b : Nat} {G : List Int} (h : HashAt w b G) (hG : G.length = 32) {F : List Int} (hF : F.length = 32) : HashAt (w.setCells b 0 (hc F)) b F := by
  have := setCells_block (b := b) (t := 43) (fr := (0, 0)) (hc F) (o := 0) (w := w) (pre := []) (mid := hc G) (post := []) (by simp only [List.nil_append, List.append_nil]; exact h) rfl (by rw [hc_len, hc_len, hF, hG])
  simpa only [HashAt, List.nil_append, List.append_nil] using this
/-- The digest's bytes, laid word by word. -/
def outF (S : St8) : Nat → Int := put4 (put4 (put4 (put4 (put4 (put4 (put4 (put4 (fun i => zero32.getD i 0) 0 S.a) 4 S.b) 8 S.c) 12 S.d) 16 S.e) 20 S.f) 24 S.g) 28 S.h
theorem outF_row (S : St8) : ((List.range 32).map fun i => Value.int .u8 (outF S i)) = hc S.out := by rfl
theorem RwK.hash {w : World} {b : Nat} {S : St8} (h : RwK .u8 w b 32 43 (outF S)) : HashAt w b S.out := by
  have := h.block
  rw [outF_row] at this
  exact this
/-- Where the loop over the blocks stands. -/
def Inv (xs : List Int) (b off : Nat) (w : World) (e : Bool) (i n : Nat) (q : Option Addr) (wr : World) : Prop :=
  ∃ S F, SmSt w wr S F ∧
    (e = false → xs.length = 64 * i + n ∧ (n = 0 ∨ q = some ⟨b, off + 64 * i, none⟩) ∧ S = shaSt xs i ∧ F = fun _ => 0) ∧
    (e = true → 64 * (if 64 < xs.length % 64 + 9 then 2 else 1) = 64 * i + n ∧ (n = 0 ∨ q = some ⟨w.heap.size + 1 + 1, 64 * i, none⟩) ∧ S = shaSt xs (xs.length / 64 + i) ∧ F = endF (xs.drop (64 * (xs.length / 64))) xs.length (64 * (if 64 < xs.length % 64 + 9 then 2 else 1)))

theorem Inv.block {xs : List Int} {b off : Nat} {w wr : World} {e : Bool} {i n : Nat} {q : Option Addr} (h : Inv xs b off w e i n q wr) (hn : 64 ≤ n) (hx : Bytes xs) (hc : ∀ i, i < xs.length → w.cell? ⟨b, off + i, none⟩ = some (.int .u8 (xs.getD i 0))) :
    ∃ bb oo Bf S F, q = some ⟨bb, oo, none⟩ ∧ (∀ j, j < 64 → wr.cell? ⟨bb, oo + j, none⟩ = some (.int .u8 (Bf j))) ∧ (∀ j, j < 64 → 0 ≤ Bf j ∧ Bf j < 256) ∧ SmSt w wr S F ∧
      (∀ w' q', SmSt w w' (S.mix Bf) F → (n = 64 ∨ q' = some ⟨bb, oo + 64, none⟩) → Inv xs b off w e (i + 1) (n - 64) q' w') := by
  obtain ⟨S, F, hm, hf, ht⟩ := h
  cases e with
  | false =>
    obtain ⟨h1, h2, rfl, rfl⟩ := hf rfl
    have h2 : q = some ⟨b, off + 64 * i, none⟩ := h2.resolve_left (by omega)
    refine ⟨b, off + 64 * i, blkF xs i, _, _, h2, fun j hj => ?_, fun j _ => padF_bytes hx _, hm, fun w' q' hm' hq' => ⟨_, _, hm', fun _ => ⟨by omega, ?_, rfl, rfl⟩, fun e => Bool.noConfusion e⟩⟩
    · have := hc (64 * i + j) (by omega)
      rw [Nat.add_assoc, blkF, padF_low (by omega)]
      exact hm.old this
    · rcases hq' with e | e
      · left; omega
      · right; rw [e, show off + 64 * i + 64 = off + 64 * (i + 1) by omega]
  | true =>
    obtain ⟨h1, h2, rfl, rfl⟩ := ht rfl
    have h2 : q = some ⟨w.heap.size + 1 + 1, 64 * i, none⟩ := h2.resolve_left (by omega)
    have h128 : 64 * (if 64 < xs.length % 64 + 9 then 2 else 1) ≤ 128 := by split <;> omega
    refine ⟨w.heap.size + 1 + 1, 64 * i, blkF xs (xs.length / 64 + i), _, _, h2, fun j hj => ?_, fun j _ => padF_bytes hx _, hm, fun w' q' hm' hq' => ⟨_, _, hm', fun e => Bool.noConfusion e, fun _ => ⟨by omega, ?_, rfl, rfl⟩⟩⟩
    · rw [hm.rt.cell (64 * i + j) (by omega), endF_pad rfl rfl rfl (by omega), blkF, show 64 * (xs.length / 64) + (64 * i + j) = 64 * (xs.length / 64 + i) + j by omega]
    · rcases hq' with e | e
      · left; omega
      · right; rw [e, show 64 * i + 64 = 64 * (i + 1) by omega]

/-- Where the whole blocks are through. -/
theorem Inv.rest {xs : List Int} {b off : Nat} {w wr : World} {i n k : Nat} {q : Option Addr} (h : Inv xs b off w false i n q wr) (hn : n < 64) (hc : ∀ i, i < xs.length → w.cell? ⟨b, off + i, none⟩ = some (.int .u8 (xs.getD i 0))) :
    i = xs.length / 64 ∧ n = (xs.drop (64 * (xs.length / 64))).length ∧ n = xs.length % 64 ∧ SmSt w wr (shaSt xs i) (fun _ => 0) ∧ Rd wr (.slice q n k) (xs.drop (64 * (xs.length / 64))) := by
  obtain ⟨S, F, hm, hf, ht⟩ := h
  obtain ⟨h1, h2, rfl, rfl⟩ := hf rfl
  have hi : i = xs.length / 64 := by omega
  have hl : n = (xs.drop (64 * (xs.length / 64))).length := by simp; omega
  refine ⟨hi, hl, by omega, hm, q, k, by rw [← hl], ?_⟩
  rcases h2 with h2 | h2
  · left; exact List.eq_nil_of_length_eq_zero (by omega)
  · right
    refine ⟨b, off + 64 * i, h2, fun j hj => ?_⟩
    have := hc (64 * i + j) (by omega)
    rw [Nat.add_assoc, hm.old this]
    simp [List.getD, hi]
/-- Where the last blocks are laid. -/
theorem Inv.tail {xs : List Int} {b off : Nat} {w w' : World} (h : SmSt w w' (shaSt xs (xs.length / 64)) (endF (xs.drop (64 * (xs.length / 64))) xs.length (64 * (if 64 < xs.length % 64 + 9 then 2 else 1)))) {n : Nat} (hn : n = 64 * (if 64 < xs.length % 64 + 9 then 2 else 1)) :
    Inv xs b off w true 0 n (some ⟨w.heap.size + 1 + 1, 0, none⟩) w' :=
  by
  refine ⟨_, _, h, fun e => Bool.noConfusion e, fun _ => ⟨by omega, .inr (by simp), by simp, rfl⟩⟩
theorem Inv.done {xs : List Int} {b off : Nat} {w wr : World} {i n : Nat} {q : Option Addr} (h : Inv xs b off w true i n q wr) (hn : n < 64) : ∃ F, SmSt w wr (shaSt xs (nbk xs.length)) F := by
  obtain ⟨S, F, hm, hf, ht⟩ := h
  obtain ⟨h1, -, rfl, rfl⟩ := ht rfl
  refine ⟨_, (?_ : SmSt w wr (shaSt xs (nbk xs.length)) (endF (xs.drop (64 * (xs.length / 64))) xs.length (64 * (if 64 < xs.length % 64 + 9 then 2 else 1))))⟩
  have : xs.length / 64 + i = nbk xs.length := by
    unfold nbk
    split at h1 <;> split <;> omega
  rw [← this]
  exact hm
theorem SmSt.chgT {w wr w' : World} {S : St8} {F G : Nat → Int} (h : SmSt w wr S F) (hG : RwK .u8 w' (w.heap.size + 1 + 1) 128 108 G) (hc : Chg wr w' [w.heap.size + 1 + 1]) : SmSt w w' S G :=
  ⟨h.below.trans (hc.toBelow (B := w.heap.size) h.below.size (by intro k hk; simp at hk; omega)), h.rr.chg hc (by simp; omega), h.rs.chg hc (by simp), hG⟩
end Go.Proofs.YtnllcmcahfkmaaaDoor
namespace Go.Proofs.YtnllcmcahfkmaaaDoor
open Go.RowKit
set_option maxRecDepth 100000

/-- A frame: of a tag that is not too long, and parts. -/
def frm (t : List Int) (L : List (List Int)) : List Int := ((t.length : Int) :: t) ++ blobs L
theorem frm_len (t : List Int) (L : List (List Int)) : (frm t L).length = 1 + t.length + (blobs L).length := by simp [frm]; omega
theorem blobs_split {L : List (List Int)} {i : Nat} (hi : i < L.length) : blobs L = blobs (L.take i) ++ (be8 (L.getD i []).length ++ (L.getD i [] ++ blobs (L.drop (i + 1)))) := by
  have e : L = L.take i ++ (L.getD i [] :: L.drop (i + 1)) := by
    conv => lhs; rw [← List.take_append_drop i L]
    rw [List.drop_eq_getElem_cons hi]
    simp [List.getD, hi]
  conv => lhs; rw [e, blobs, List.flatMap_append, List.flatMap_cons]
  simp only [blobs, List.append_assoc]
theorem getD_app_right {xs ys : List Int} {k : Nat} : (xs ++ ys).getD (xs.length + k) 0 = ys.getD k 0 := by
  simp only [List.getD_eq_getElem?_getD]
  rw [List.getElem?_append_right (by omega), Nat.add_sub_cancel_left]
theorem getD_app_left {xs ys : List Int} {k : Nat} (h : k < xs.length) : (xs ++ ys).getD k 0 = xs.getD k 0 := by
  simp [List.getD, List.getElem?_append_left h]
/-- How far a frame is written behind i parts. -/
def frmAt (t : List Int) (L : List (List Int)) (i : Nat) : Nat := 1 + t.length + (blobs (L.take i)).length
theorem frmAt_succ (t : List Int) {L : List (List Int)} {i : Nat} (hi : i < L.length) : frmAt t L (i + 1) = frmAt t L i + 8 + (L.getD i []).length := by
  unfold frmAt; rw [blobs_len hi]; omega
theorem frmAt_le (t : List Int) (L : List (List Int)) (i : Nat) : frmAt t L i ≤ (frm t L).length := by
  unfold frmAt; rw [frm_len]; have := blobs_le L i; omega
theorem frmAt_end (t : List Int) (L : List (List Int)) : frmAt t L L.length = (frm t L).length := by
  unfold frmAt; rw [frm_len, List.take_length]
theorem frm_get (t : List Int) {L : List (List Int)} {i : Nat} (hi : i < L.length) (k : Nat) : (frm t L).getD (frmAt t L i + k) 0 = (be8 (L.getD i []).length ++ (L.getD i [] ++ blobs (L.drop (i + 1)))).getD k 0 := by
  have e : frm t L = (((t.length : Int) :: t) ++ blobs (L.take i)) ++ (be8 (L.getD i []).length ++ (L.getD i [] ++ blobs (L.drop (i + 1)))) := by
    rw [frm, blobs_split hi, List.append_assoc]
  have hl : frmAt t L i = (((t.length : Int) :: t) ++ blobs (L.take i)).length := by unfold frmAt; simp; omega
  rw [e, hl, getD_app_right]
theorem frm_step (t : List Int) {L : List (List Int)} {i : Nat} (hi : i < L.length) {f : Nat → Int} (hf : ∀ j, j < frmAt t L i → f j = (frm t L).getD j 0) {j : Nat} (hj : j < frmAt t L (i + 1)) :
    cpf (put8 f (frmAt t L i) ((L.getD i []).length : Int)) (frmAt t L i + 8) (L.getD i []) j = (frm t L).getD j 0 := by
  rw [frmAt_succ t hi] at hj
  by_cases h1 : j < frmAt t L i
  · rw [cpf_out (by omega), put8_out _ (by omega)]; exact hf j h1
  · obtain ⟨k, rfl⟩ : ∃ k, j = frmAt t L i + k := ⟨j - frmAt t L i, by omega⟩
    rw [frm_get t hi]
    by_cases h8 : k < 8
    · rw [cpf_out (by omega), put8_in _ _ _ h8, getD_app_left (by simpa using h8)]
    · rw [cpf_in (by omega) (by omega)]
      obtain ⟨m, rfl⟩ : ∃ m, k = 8 + m := ⟨k - 8, by omega⟩
      have := getD_app_right (xs := be8 ((L.getD i []).length : Int)) (ys := L.getD i [] ++ blobs (L.drop (i + 1))) (k := m)
      rw [be8_len] at this
      rw [this, getD_app_left (by omega)]
      congr 1
      omega
theorem frm_start (t : List Int) (L : List (List Int)) (f : Nat → Int) {j : Nat} (hj : j < frmAt t L 0) : cpf (updK f 0 (t.length : Int)) 1 t j = (frm t L).getD j 0 := by
  have hl : frmAt t L 0 = 1 + t.length := by simp [frmAt, blobs]
  have e : (frm t L).getD j 0 = ((t.length : Int) :: t).getD j 0 := getD_app_left (by simp; omega)
  rw [e]
  by_cases h0 : j = 0
  · subst h0; rw [cpf_out (by omega), updK_same]; rfl
  · rw [cpf_in (by omega) (by omega)]
    obtain ⟨m, rfl⟩ : ∃ m, j = m + 1 := ⟨j - 1, by omega⟩
    rfl
theorem frm_bytes {t : List Int} {L : List (List Int)} (ht : Bytes t) (h255 : t.length ≤ 255) (hL : ∀ b ∈ L, Bytes b) : Bytes (frm t L) := by
  refine Bytes.append ?_ ?_
  · intro x hx
    rcases List.mem_cons.1 hx with rfl | hx
    · omega
    · exact ht x hx
  · intro x hx
    obtain ⟨b, hb, hx⟩ := List.mem_flatMap.1 hx
    rcases List.mem_append.1 hx with hx | hx
    · exact be8_bytes _ x hx
    · exact hL b hb x hx
end Go.Proofs.YtnllcmcahfkmaaaDoor
namespace Go.Proofs.YtnllcmcahfkmaaaDoor
open Go.RowKit
set_option maxRecDepth 100000

theorem Tryd.infoU8 : (Tryd.prog.info? 5).map (fun i => (i.zero, i.size, i.bytes)) = some (some (.int .u8 0), 1, 1) := by kernel_rfl

/-- A tag, as far as it counts. -/
def cut255 (s : ByteArray) : ByteArray := if s.size ≤ 255 then s else s.extract 0 255
theorem cut_small {s : ByteArray} (h : s.size ≤ 255) : cut255 s = s := if_pos h
theorem cut_size (s : ByteArray) : (cut255 s).size ≤ 255 := by
  unfold cut255
  split
  · assumption
  · simp [ByteArray.size_extract]; omega

set_option maxHeartbeats 4000000 in
theorem Frame_cut {w : World} {s t : ByteArray} {v : Value} {L : List (List Int)} (hL : RdL w v L []) (hs : s.size ≤ maxLen) (hst : cut255 s = t) (hn : (frm (sn t) L).length ≤ 140737488355328) :
    Calls Tryd.prog 40 #[.string s, v] w fun e w' => e = .returned (.slice (some ⟨w.heap.size, 0, none⟩) (frm (sn t) L).length (frm (sn t) L).length) ∧
      RwK .u8 w' w.heap.size (frm (sn t) L).length 5 (fun i => (frm (sn t) L).getD i 0) ∧ Below w.heap.size w w' := by
  have h255 : t.size ≤ 255 := by rw [← hst]; exact cut_size s
  unfold maxLen at hs
  have hcut : (s.size ≤ 255 ∧ s = t) ∨ (255 < s.size ∧ s.extract 0 255 = t) := by
    by_cases h : s.size ≤ 255
    · exact .inl ⟨h, by rw [← hst]; exact (if_pos h).symm⟩
    · exact .inr ⟨by omega, by rw [← hst]; exact (if_neg h).symm⟩
  clear hst
  obtain ⟨q, c, rfl⟩ : ∃ q c, v = .slice q L.length c := by obtain ⟨q, c, e, _⟩ := hL; exact ⟨q, c, e⟩
  obtain ⟨i0, hi, hz0, hz1, hz2⟩ := info_parts Tryd.infoU8
  have HL := Lib.hid hL
  replace hi := Lib.hid hi
  replace hz0 := Lib.hid hz0
  replace hz1 := Lib.hid hz1
  replace hz2 := Lib.hid hz2
  have hsl := sn_len t
  have hmany := blobs_many L
  have hfl := frm_len (sn t) L
  have hLn : L.length ≤ 140737488355328 := by omega
  have hbl : (blobs L).length ≤ 140737488355328 := by omega
  obtain ⟨N, hN⟩ : ∃ N, (frm (sn t) L).length = N := ⟨_, rfl⟩
  have HN : Hid (1 + t.size + (blobs L).length = N) := by rw [← hN]; show _ = _; omega
  have HNf := Lib.hid hN
  have HSL := Lib.hid hsl
  have hNle : N ≤ 140737488355328 := by omega
  have hN0 : 1 + t.size ≤ N := by omega
  rw [hN] at hn ⊢
  clear hL hsl hmany hfl hn hN
  go_enter Tryd.func40, Tryd.ntmps40
  rcases hcut with ⟨hc1, hc2⟩ | ⟨hc1, hc2⟩
  · have hmin : min (s.size : Int) 255 = s.size := by omega
    obtain hc3 := hc2.symm
    subst hc3
    go_wp2_with fail
    clear hmin hc1
    go_loopw [5, 22] (fun nv iv wr => ∃ i : Nat, iv = .int .i64 i ∧ i ≤ L.length ∧ nv = .int .i64 (1 + (t.size : Int) + ((blobs (L.take i)).length : Int)) ∧ wr = w) (fun _ iv _ => L.length - (intOf iv).toNat)
    case atStart => exact ⟨0, rfl, by omega, by simp [blobs], rfl⟩
    case round =>
      obtain ⟨i, rfl, hil, rfl, rfl⟩ := hrel
      have hbi := blobs_le L i
      by_cases hlt : i < L.length
      · obtain ⟨b, off, r, m, k, -, rfl, -, hc, rfl, -, -⟩ := HL.out.at hlt
        have hbs := blobs_len hlt
        have hbl2 := blobs_le L (i + 1)
        have HE := Lib.hid hbs
        have g1 : ((blobs (L.take i)).length : Int) + 8 + ((L.getD i []).length : Int) ≤ 140737488355328 := by omega
        clear hbs hbl2
        generalize hbb : (L.getD i []).length = lb at hc g1 HE ⊢
        go_wp2_with fail
        go_roundw
        case rel => exact ⟨i + 1, by go_num, by omega, by rw [HE.out]; congr 1; omega, trivial⟩
        case measure => simp [intOf]; omega
      · obtain rfl : i = L.length := by omega
        rw [List.take_length]
        have hNN : (1 + (t.size : Int) + ((blobs L).length : Int)) = (N : Int) := by have := HN.out; omega
        rw [hNN]
        clear hlt hNN hbi hil
        go_wp2_with (refine wpList_make_full _ rfl _ _ _ rfl 0 _ _ _ _ Tryd.underlying67 hi.out hz0.out hz1.out _ _ _ _ N rfl rfl rfl rfl ?b1 ?b2 ?b3 ?_)
        case b1 => rw [hz2.out]; omega
        case b2 => unfold maxLen; omega
        case b3 => omega
        intro w1 own1 grow1
        have hr1 : RwK .u8 w1 wr.heap.size N 5 (fun _ => 0) := rw_of_made own1
        have hk1 : Chg wr w1 [] := Chg.grown grow1 (by simp)
        have hzz : wr.heap.size < w1.heap.size := hr1.lt
        have c0 := hr1.cell 0 (by omega)
        have f0 := hr1.free 0
        have R1 := Lib.hid (hr1.store (j := 0) (by omega) (t.size : Int))
        have K1 := Lib.hid (((hk1.mono (T := [wr.heap.size]) (by simp)).setCell (p := ⟨wr.heap.size, 0, none⟩) (.inl (by simp)) (.int .u8 (t.size : Int))))
        clear own1 grow1 hr1 hk1
        by_cases hN1 : N = 1
        · subst hN1
          have hL0 : L = [] := by have := blobs_many L; have := HN.out; exact List.eq_nil_of_length_eq_zero (by omega)
          subst hL0
          go_wp2_with (with_reducible refine wpList_copy_str rfl _ _ _ _ rfl 5 Tryd.underlying67 Tryd.size_u8 _ _ _ t rfl rfl R1.out 1 (by omega) (by intro h; first | rfl | omega) (by omega) ?_)
          intro w2 h2 k2
          have HR2 := Lib.hid h2
          have K2 := Lib.hid (K1.out.trans k2 (fun _ h _ => h))
          clear h2 k2 c0 f0 K1 R1
          go_wp2_with fail
          refine wp_loop_rounds 1 ?_
          rw [rounds_succ]
          go_wp2_with fail
          go_ret
          refine ⟨rfl, HR2.out.same (fun j hj => ?_), K2.out.toBelow (Nat.le_refl _) (by intro k hk; simp at hk; omega)⟩
          have := frm_start (sn t) [] (fun _ => 0) (j := j) (by unfold frmAt; omega)
          rw [HSL.out] at this
          exact this
        · go_wp2_with (with_reducible refine wpList_copy_str rfl _ _ _ _ rfl 5 Tryd.underlying67 Tryd.size_u8 _ _ _ t rfl rfl R1.out 1 (by omega) (by intro h; first | rfl | omega) (by omega) ?_)
          intro w2 h2 k2
          have HI : Hid (RwK .u8 w2 wr.heap.size N 5 (cpf (updK (fun _ => 0) 0 (t.size : Int)) 1 (sn t)) ∧ Below wr.heap.size wr w2 ∧ ∀ j, j < frmAt (sn t) L 0 → cpf (updK (fun _ => 0) 0 (t.size : Int)) 1 (sn t) j = (frm (sn t) L).getD j 0) :=
            ⟨h2, (K1.out.trans k2 (fun _ h _ => h)).toBelow (Nat.le_refl _) (by intro k hk; simp at hk; omega), fun j hj => by have := frm_start (sn t) L (fun _ => 0) hj; rw [HSL.out] at this; exact this⟩
          clear h2 k2 c0 f0 K1 R1
          obtain ⟨w0, rfl⟩ : ∃ w0 : World, w0 = wr := ⟨_, rfl⟩
          go_wp2_with fail
          go_loopw [9, 46] (fun av iv wr => ∃ (i : Nat) (f : Nat → Int), iv = .int .i64 i ∧ i ≤ L.length ∧ av = .int .i64 (1 + (t.size : Int) + ((blobs (L.take i)).length : Int)) ∧ Hid (RwK .u8 wr w0.heap.size N 5 f ∧ Below w0.heap.size w0 wr ∧ ∀ j, j < frmAt (sn t) L i → f j = (frm (sn t) L).getD j 0)) (fun _ iv _ => L.length - (intOf iv).toNat)
          case atStart => exact ⟨0, _, rfl, by omega, by simp [blobs], HI⟩
          case round =>
            clear HI
            obtain ⟨i, f, rfl, hil, rfl, hS⟩ := hrel
            by_cases hlt : i < L.length
            · obtain ⟨b, off, r, m, k, -, rfl, -, hcw, rfl, hrd, -⟩ := HL.out.at hlt
              have hc : wr.cell? ⟨b, off + i, none⟩ = some (.slice r (L.getD i []).length k) := by
                rw [World.cell?_of_block (w := w0) (hS.out.2.1.block b (lt_of_cell hcw))]; exact hcw
              have HRD := Lib.hid hrd
              have HSt := Lib.hid (fun j hj => frm_step (sn t) hlt hS.out.2.2 (j := j) hj)
              have R := Lib.hid hS.out.1
              have B := Lib.hid hS.out.2.1
              have HA : Hid (frmAt (sn t) L i = 1 + t.size + (blobs (L.take i)).length) := by show _ = _; unfold frmAt; rw [HSL.out]
              have hfit : 1 + t.size + (blobs (L.take i)).length + 8 + (L.getD i []).length ≤ N := by
                have e1 := frmAt_succ (sn t) hlt
                have e2 := frmAt_le (sn t) L (i + 1)
                rw [HNf.out] at e2
                have := HA.out
                omega
              rw [HA.out] at HSt
              have HE := Lib.hid (blobs_len hlt)
              clear hS hcw hrd
              obtain ⟨a, ha⟩ : ∃ a : Nat, 1 + t.size + (blobs (L.take i)).length = a := ⟨_, rfl⟩
              have ha' : (1 + (t.size : Int) + ((blobs (L.take i)).length : Int)) = (a : Int) := by omega
              rw [ha]at HSt hfit
              rw [ha']
              have HAA := Lib.hid ha
              clear ha ha'
              generalize hbb : L.getD i [] = bb at *
              clear hbb
              go_wp2_with fail
              refine (put64_any R.out (off := a) (len := N - a) (cap := N - a) (by omega) (Nat.le_refl _) (by omega) _).mono ?_
              rintro e w3 ⟨rfl, h3, k3⟩
              have R3 := Lib.hid h3
              have hB3 := B.out.trans ((k3.toBelow (B := w0.heap.size) B.out.size (by intro k hk; simp at hk; omega)))
              have B3 := Lib.hid hB3
              have hP : Hid (0 < bb.length → ∃ ad, r = some ad ∧ ∀ j, j < bb.length → w3.cell? (ad.add j) = some (.int .u8 (bb.getD j 0))) := by
                intro h0
                obtain ⟨q', c', e, rfl | ⟨b', o', rfl, hcc⟩⟩ := HRD.out.on hB3
                · simp at h0
                · simp only [Value.slice.injEq] at e
                  exact ⟨_, e.1, fun j hj => by rw [addr_add]; exact hcc j hj⟩
              have HN3 := Lib.hid (R3.out.lt)
              clear h3 k3 hB3 hc HRD R B
              by_cases haN : a + 8 = N
              all_goals
                go_wp2_with (with_reducible refine wpList_copy_rw rfl _ _ _ _ rfl 5 Tryd.underlying67 Tryd.size_u8 _ _ _ _ _ _ rfl rfl R3.out (a + 8) bb (Nat.min_eq_left (by omega)).symm (fun h0 => ⟨by first | rfl | omega, hP.out h0⟩) (by omega) ?_)
                intro w4 h4 k4
                have HN4 : Hid (RwK .u8 w4 w0.heap.size N 5 (cpf (put8 f a (bb.length : Int)) (a + 8) bb) ∧ Below w0.heap.size w0 w4 ∧ ∀ j, j < frmAt (sn t) L (i + 1) → cpf (put8 f a (bb.length : Int)) (a + 8) bb j = (frm (sn t) L).getD j 0) :=
                  ⟨by first | exact h4 | (rw [haN]; exact h4), B3.out.trans (k4.toBelow (B := w0.heap.size) B3.out.size (by intro k hk; simp at hk; omega)), HSt.out⟩
                clear h4 k4 hP
                go_wp2_with fail
                go_roundw
                case rel => exact ⟨i + 1, _, by go_num, by omega, by rw [HE.out]; have := HAA.out; congr 1; omega, HN4⟩
                case measure => simp [intOf]; omega
            · obtain rfl : i = L.length := by omega
              have HR := Lib.hid hS
              clear hS
              go_wp2_with fail
              go_ret
              refine ⟨rfl, HR.out.out.1.same (fun j hj => HR.out.out.2.2 j (by rw [frmAt_end, HNf.out]; exact hj)), HR.out.out.2.1⟩
  · have hmin : min (s.size : Int) 255 = 255 := by omega
    have hsz255 : (255 : Int) ≤ (s.size : Int) := by omega
    go_wp2_with fail
    clear hmin hc1 hc2 hsz255
    go_loopw [5, 22] (fun nv iv wr => ∃ i : Nat, iv = .int .i64 i ∧ i ≤ L.length ∧ nv = .int .i64 (1 + (t.size : Int) + ((blobs (L.take i)).length : Int)) ∧ wr = w) (fun _ iv _ => L.length - (intOf iv).toNat)
    case atStart => exact ⟨0, rfl, by omega, by simp [blobs], rfl⟩
    case round =>
      obtain ⟨i, rfl, hil, rfl, rfl⟩ := hrel
      have hbi := blobs_le L i
      by_cases hlt : i < L.length
      · obtain ⟨b, off, r, m, k, -, rfl, -, hc, rfl, -, -⟩ := HL.out.at hlt
        have hbs := blobs_len hlt
        have hbl2 := blobs_le L (i + 1)
        have HE := Lib.hid hbs
        have g1 : ((blobs (L.take i)).length : Int) + 8 + ((L.getD i []).length : Int) ≤ 140737488355328 := by omega
        clear hbs hbl2
        generalize hbb : (L.getD i []).length = lb at hc g1 HE ⊢
        go_wp2_with fail
        go_roundw
        case rel => exact ⟨i + 1, by go_num, by omega, by rw [HE.out]; congr 1; omega, trivial⟩
        case measure => simp [intOf]; omega
      · obtain rfl : i = L.length := by omega
        rw [List.take_length]
        have hNN : (1 + (t.size : Int) + ((blobs L).length : Int)) = (N : Int) := by have := HN.out; omega
        rw [hNN]
        clear hlt hNN hbi hil
        go_wp2_with (refine wpList_make_full _ rfl _ _ _ rfl 0 _ _ _ _ Tryd.underlying67 hi.out hz0.out hz1.out _ _ _ _ N rfl rfl rfl rfl ?b1 ?b2 ?b3 ?_)
        case b1 => rw [hz2.out]; omega
        case b2 => unfold maxLen; omega
        case b3 => omega
        intro w1 own1 grow1
        have hr1 : RwK .u8 w1 wr.heap.size N 5 (fun _ => 0) := rw_of_made own1
        have hk1 : Chg wr w1 [] := Chg.grown grow1 (by simp)
        have hzz : wr.heap.size < w1.heap.size := hr1.lt
        have c0 := hr1.cell 0 (by omega)
        have f0 := hr1.free 0
        have R1 := Lib.hid (hr1.store (j := 0) (by omega) (t.size : Int))
        have K1 := Lib.hid (((hk1.mono (T := [wr.heap.size]) (by simp)).setCell (p := ⟨wr.heap.size, 0, none⟩) (.inl (by simp)) (.int .u8 (t.size : Int))))
        clear own1 grow1 hr1 hk1
        by_cases hN1 : N = 1
        · subst hN1
          have hL0 : L = [] := by have := blobs_many L; have := HN.out; exact List.eq_nil_of_length_eq_zero (by omega)
          subst hL0
          go_wp2_with (with_reducible refine wpList_copy_str rfl _ _ _ _ rfl 5 Tryd.underlying67 Tryd.size_u8 _ _ _ t rfl rfl R1.out 1 (by omega) (by intro h; first | rfl | omega) (by omega) ?_)
          intro w2 h2 k2
          have HR2 := Lib.hid h2
          have K2 := Lib.hid (K1.out.trans k2 (fun _ h _ => h))
          clear h2 k2 c0 f0 K1 R1
          go_wp2_with fail
          refine wp_loop_rounds 1 ?_
          rw [rounds_succ]
          go_wp2_with fail
          go_ret
          refine ⟨rfl, HR2.out.same (fun j hj => ?_), K2.out.toBelow (Nat.le_refl _) (by intro k hk; simp at hk; omega)⟩
          have := frm_start (sn t) [] (fun _ => 0) (j := j) (by unfold frmAt; omega)
          rw [HSL.out] at this
          exact this
        · go_wp2_with (with_reducible refine wpList_copy_str rfl _ _ _ _ rfl 5 Tryd.underlying67 Tryd.size_u8 _ _ _ t rfl rfl R1.out 1 (by omega) (by intro h; first | rfl | omega) (by omega) ?_)
          intro w2 h2 k2
          have HI : Hid (RwK .u8 w2 wr.heap.size N 5 (cpf (updK (fun _ => 0) 0 (t.size : Int)) 1 (sn t)) ∧ Below wr.heap.size wr w2 ∧ ∀ j, j < frmAt (sn t) L 0 → cpf (updK (fun _ => 0) 0 (t.size : Int)) 1 (sn t) j = (frm (sn t) L).getD j 0) :=
            ⟨h2, (K1.out.trans k2 (fun _ h _ => h)).toBelow (Nat.le_refl _) (by intro k hk; simp at hk; omega), fun j hj => by have := frm_start (sn t) L (fun _ => 0) hj; rw [HSL.out] at this; exact this⟩
          clear h2 k2 c0 f0 K1 R1
          obtain ⟨w0, rfl⟩ : ∃ w0 : World, w0 = wr := ⟨_, rfl⟩
          go_wp2_with fail
          go_loopw [9, 46] (fun av iv wr => ∃ (i : Nat) (f : Nat → Int), iv = .int .i64 i ∧ i ≤ L.length ∧ av = .int .i64 (1 + (t.size : Int) + ((blobs (L.take i)).length : Int)) ∧ Hid (RwK .u8 wr w0.heap.size N 5 f ∧ Below w0.heap.size w0 wr ∧ ∀ j, j < frmAt (sn t) L i → f j = (frm (sn t) L).getD j 0)) (fun _ iv _ => L.length - (intOf iv).toNat)
          case atStart => exact ⟨0, _, rfl, by omega, by simp [blobs], HI⟩
          case round =>
            clear HI
            obtain ⟨i, f, rfl, hil, rfl, hS⟩ := hrel
            by_cases hlt : i < L.length
            · obtain ⟨b, off, r, m, k, -, rfl, -, hcw, rfl, hrd, -⟩ := HL.out.at hlt
              have hc : wr.cell? ⟨b, off + i, none⟩ = some (.slice r (L.getD i []).length k) := by
                rw [World.cell?_of_block (w := w0) (hS.out.2.1.block b (lt_of_cell hcw))]; exact hcw
              have HRD := Lib.hid hrd
              have HSt := Lib.hid (fun j hj => frm_step (sn t) hlt hS.out.2.2 (j := j) hj)
              have R := Lib.hid hS.out.1
              have B := Lib.hid hS.out.2.1
              have HA : Hid (frmAt (sn t) L i = 1 + t.size + (blobs (L.take i)).length) := by show _ = _; unfold frmAt; rw [HSL.out]
              have hfit : 1 + t.size + (blobs (L.take i)).length + 8 + (L.getD i []).length ≤ N := by
                have e1 := frmAt_succ (sn t) hlt
                have e2 := frmAt_le (sn t) L (i + 1)
                rw [HNf.out] at e2
                have := HA.out
                omega
              rw [HA.out] at HSt
              have HE := Lib.hid (blobs_len hlt)
              clear hS hcw hrd
              obtain ⟨a, ha⟩ : ∃ a : Nat, 1 + t.size + (blobs (L.take i)).length = a := ⟨_, rfl⟩
              have ha' : (1 + (t.size : Int) + ((blobs (L.take i)).length : Int)) = (a : Int) := by omega
              rw [ha]at HSt hfit
              rw [ha']
              have HAA := Lib.hid ha
              clear ha ha'
              generalize hbb : L.getD i [] = bb at *
              clear hbb
              go_wp2_with fail
              refine (put64_any R.out (off := a) (len := N - a) (cap := N - a) (by omega) (Nat.le_refl _) (by omega) _).mono ?_
              rintro e w3 ⟨rfl, h3, k3⟩
              have R3 := Lib.hid h3
              have hB3 := B.out.trans ((k3.toBelow (B := w0.heap.size) B.out.size (by intro k hk; simp at hk; omega)))
              have B3 := Lib.hid hB3
              have hP : Hid (0 < bb.length → ∃ ad, r = some ad ∧ ∀ j, j < bb.length → w3.cell? (ad.add j) = some (.int .u8 (bb.getD j 0))) := by
                intro h0
                obtain ⟨q', c', e, rfl | ⟨b', o', rfl, hcc⟩⟩ := HRD.out.on hB3
                · simp at h0
                · simp only [Value.slice.injEq] at e
                  exact ⟨_, e.1, fun j hj => by rw [addr_add]; exact hcc j hj⟩
              have HN3 := Lib.hid (R3.out.lt)
              clear h3 k3 hB3 hc HRD R B
              by_cases haN : a + 8 = N
              all_goals
                go_wp2_with (with_reducible refine wpList_copy_rw rfl _ _ _ _ rfl 5 Tryd.underlying67 Tryd.size_u8 _ _ _ _ _ _ rfl rfl R3.out (a + 8) bb (Nat.min_eq_left (by omega)).symm (fun h0 => ⟨by first | rfl | omega, hP.out h0⟩) (by omega) ?_)
                intro w4 h4 k4
                have HN4 : Hid (RwK .u8 w4 w0.heap.size N 5 (cpf (put8 f a (bb.length : Int)) (a + 8) bb) ∧ Below w0.heap.size w0 w4 ∧ ∀ j, j < frmAt (sn t) L (i + 1) → cpf (put8 f a (bb.length : Int)) (a + 8) bb j = (frm (sn t) L).getD j 0) :=
                  ⟨by first | exact h4 | (rw [haN]; exact h4), B3.out.trans (k4.toBelow (B := w0.heap.size) B3.out.size (by intro k hk; simp at hk; omega)), HSt.out⟩
                clear h4 k4 hP
                go_wp2_with fail
                go_roundw
                case rel => exact ⟨i + 1, _, by go_num, by omega, by rw [HE.out]; have := HAA.out; congr 1; omega, HN4⟩
                case measure => simp [intOf]; omega
            · obtain rfl : i = L.length := by omega
              have HR := Lib.hid hS
              clear hS
              go_wp2_with fail
              go_ret
              refine ⟨rfl, HR.out.out.1.same (fun j hj => HR.out.out.2.2 j (by rw [frmAt_end, HNf.out]; exact hj)), HR.out.out.2.1⟩
theorem Frame_any {w : World} {s : ByteArray} {v : Value} {L : List (List Int)} (hL : RdL w v L []) (h255 : s.size ≤ 255) (hn : (frm (sn s) L).length ≤ 140737488355328) :
    Calls Tryd.prog 40 #[.string s, v] w fun e w' => e = .returned (.slice (some ⟨w.heap.size, 0, none⟩) (frm (sn s) L).length (frm (sn s) L).length) ∧
      RwK .u8 w' w.heap.size (frm (sn s) L).length 5 (fun i => (frm (sn s) L).getD i 0) ∧ Below w.heap.size w w' :=
  Frame_cut hL (by unfold maxLen; omega) (cut_small h255) hn
end Go.Proofs.YtnllcmcahfkmaaaDoor
namespace Go.Proofs.YtnllcmcahfkmaaaDoor
set_option maxRecDepth 100000
open Go.RowKit

section
variable {w w' : World} {e : TypeId} {size : Nat} {v : Value} {n : Nat} {xs : List Value}
theorem own_lt (h : w.ownsRow 0 e size v n xs) {k : Nat} (hk : v.ownBlock = some k) : k < w.heap.size := by
  rcases h.2 with ⟨rfl, _⟩ | ⟨g, cap, cur, rfl, _, hg, _⟩
  · simp [Value.ownBlock] at hk
  · obtain rfl : g = k := by simpa [Value.ownBlock] using hk
    exact (Array.getElem?_eq_some_iff.1 hg).1
theorem own_ne (h : w.ownsRow 0 e size v n xs) {p : Nat} {cs : Array Value} {t : TypeId} {fr : Nat × Nat} (hp : w.heap[p]? = some (.cells cs t fr)) (ht : t ≠ e) : v.ownBlock ≠ some p := by
  rcases h.2 with ⟨rfl, _⟩ | ⟨g, cap, cur, rfl, _, hg, _⟩
  · simp [Value.ownBlock]
  · intro hk
    obtain rfl : g = p := by simpa [Value.ownBlock] using hk
    rw [hp] at hg
    simp at hg
    exact ht hg.2.1
theorem own_keep (h : w.ownsRow 0 e size v n xs) (hb : ∀ k, v.ownBlock = some k → w'.heap[k]? = w.heap[k]?) : w'.ownsRow 0 e size v n xs := by
  refine ⟨h.1, ?_⟩
  rcases h.2 with hn | ⟨g, cap, cur, rfl, hq, hg, r⟩
  · exact .inl hn
  · exact .inr ⟨g, cap, cur, rfl, hq, by rw [hb g rfl]; exact hg, r⟩
theorem own_chg2 {S : List Nat} (h : w.ownsRow 0 e size v n xs) (hc : Chg w w' S) (hS : ∀ k, v.ownBlock = some k → k ∉ S) : w'.ownsRow 0 e size v n xs :=
  own_keep h fun k hk => hc.block k (own_lt h hk) (hS k hk)
theorem own_on (h : w.ownsRow 0 e size v n xs) (hb : Below w.heap.size w w') : w'.ownsRow 0 e size v n xs := own_chg2 h (Chg.below hb (Nat.le_refl _) []) (by simp)
theorem own_two {e' : TypeId} {size' : Nat} {v' : Value} {n' : Nat} {xs' : List Value} (h : w.ownsRow 0 e size v n xs) (h' : w.ownsRow 0 e' size' v' n' xs') (ht : e ≠ e') {k : Nat} (hk : v.ownBlock = some k) : v'.ownBlock ≠ some k := by
  rcases h.2 with ⟨rfl, _⟩ | ⟨g, cap, cur, rfl, _, hg, _⟩
  · simp [Value.ownBlock] at hk
  · obtain rfl : g = k := by simpa [Value.ownBlock] using hk
    exact own_ne h' hg ht
theorem own_slice (h : w.ownsRow 0 e size v n xs) : ∃ q c, v = .slice q n c := by
  rcases h.2 with ⟨rfl, rfl⟩ | ⟨g, cap, cur, rfl, _⟩
  · exact ⟨_, _, rfl⟩
  · exact ⟨_, _, rfl⟩
theorem own_empty (w : World) (e : TypeId) (size : Nat) : (w.alloc (.cells #[] e)).ownsRow 0 e size (.slice (some ⟨w.heap.size, 0, none⟩) 0 0) 0 [] :=
  ⟨by simp, .inr ⟨w.heap.size, 0, #[], rfl, Nat.zero_le _, heap_alloc_new w _, Nat.le_refl _, Nat.zero_le _, by simp, by simp⟩⟩
end

theorem Tryd.infoU8s : (Tryd.prog.info? 67).map (fun i => (i.zero, i.size, i.bytes)) = some (some (.slice none 0 0), 1, 24) := by kernel_rfl

end Go.Proofs.YtnllcmcahfkmaaaDoor
