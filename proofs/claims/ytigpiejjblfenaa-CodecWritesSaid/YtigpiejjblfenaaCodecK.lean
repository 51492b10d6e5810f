/-
  The walk of basculelaw03.knows: a blob is written and read.
-/
import Derived.Test.YtigpiejjblfenaaCodecR
import Derived.Lib.SlBytesConst
namespace Go.Proofs.Ytigpiejjblfenaa
set_option maxRecDepth 100000
open Go.RowKit

theorem num_any (c : Int) (w : World) : Calls Try.prog 10 #[.int .i64 c] w fun e w' => e = .returned (.int .i64 c) ∧ w = w' := by
  go_enter Try.func10, Try.ntmps10
  go_wp2_with fail
  go_ret
  exact ⟨rfl, rfl⟩
theorem bthen {B : Nat} {a w w' : World} (h : Below B a w) (k : Below w.heap.size w w') (hB : B ≤ w.heap.size) : Below B a w' := h.trans (k.mono hB)
theorem bchg {B : Nat} {a w w' : World} {S : List Nat} (h : Below B a w) (k : Chg w w' S) (hB : B ≤ w.heap.size) (hS : ∀ k, k ∈ S → B ≤ k) : Below B a w' := h.trans (k.toBelow hB hS)

/-- A literal of slices. -/
theorem RdL_one {w : World} {T : TypeId} {u : Value} {xs : List Int} {S : List Nat} (h : Rd w u xs) (hu : xs ≠ [] → ∀ k, u.ownBlock = some k → k ∉ S) (hn : w.heap.size ∉ S) :
    RdL (w.alloc (.cells #[u] T)) (.slice (some ⟨w.heap.size, 0, none⟩) 1 1) [xs] S :=
  ⟨_, 1, rfl, .inr ⟨_, 0, rfl, hn, fun i hi => by
    obtain rfl : i = 0 := by simpa using hi
    exact ⟨u, (Joins.cell_of_block (heap_alloc_new w _) 0).trans rfl, h.alloc _, hu⟩⟩⟩
theorem RdL_two {w : World} {T : TypeId} {u v : Value} {xs ys : List Int} {S : List Nat} (h : Rd w u xs) (k : Rd w v ys) (hu : xs ≠ [] → ∀ k, u.ownBlock = some k → k ∉ S) (hv : ys ≠ [] → ∀ k, v.ownBlock = some k → k ∉ S) (hn : w.heap.size ∉ S) :
    RdL (w.alloc (.cells #[u, v] T)) (.slice (some ⟨w.heap.size, 0, none⟩) 2 2) [xs, ys] S :=
  ⟨_, 2, rfl, .inr ⟨_, 0, rfl, hn, fun i hi => by
    have e : i = 0 ∨ i = 1 := by simp at hi; omega
    rcases e with rfl | rfl
    · exact ⟨u, (Joins.cell_of_block (heap_alloc_new w _) 0).trans rfl, h.alloc _, hu⟩
    · exact ⟨v, (Joins.cell_of_block (heap_alloc_new w _) 1).trans rfl, k.alloc _, hv⟩⟩⟩
/-- A literal of bytes. -/
theorem Rd_lit (w : World) (T : TypeId) (fr : Nat × Nat) (xs : List Int) : Rd (w.alloc (.cells (bc xs).toArray T fr)) (.slice (some ⟨w.heap.size, 0, none⟩) xs.length xs.length) xs :=
  ⟨_, _, rfl, .inr ⟨_, 0, rfl, fun i hi => by
    rw [Nat.zero_add]
    refine (Joins.cell_of_block (heap_alloc_new w _) i).trans ?_
    simp [bc, List.getD, hi]⟩⟩

theorem below_drewN {B : Nat} {a w : World} (h : Below B a w) (n : Nat) : Below B a (w.drewN n) := ⟨h.os, h.tape, h.output, h.size, h.block⟩
def kx : List Int := [97, 98]
theorem kx_str : strOfNums kx = { data := #[97, 98] } := by rfl
theorem kw_str : strOfNums ([] ++ blobs [kx]) = { data := #[0, 0, 0, 0, 0, 0, 0, 2, 97, 98] } := by rfl

set_option maxHeartbeats 600000 in
theorem knows_any (w : World) : Calls Try.prog 8 #[] w fun e w' => e = .returned (.bool true) ∧ Below w.heap.size w w' := by
  have kc := fun (W : World) (C : Array Value) (n c : Nat) => Lib.run_convert_bytes_const (P := Try.prog) W 26 5 C n c Try.underlying26 Try.underlying5
  go_enter Try.func8, Try.ntmps8
  go_wp2_with fail
  refine (NewWriter_any _).mono ?_
  rintro e w1 ⟨rfl, rfl⟩
  have H1 := Lib.hid (WrV.new w)
  have B1 := Lib.hid ((Below.refl w.heap.size w).alloc (Nat.le_refl _) (.cells #[.bool true, .slice none 0 0] 54))
  have z1 : w.heap.size < (w.alloc (.cells #[.bool true, .slice none 0 0] 54)).heap.size := by simp
  generalize w.alloc (.cells #[.bool true, .slice none 0 0] 54) = w1 at H1 B1 z1 ⊢
  generalize hp : w.heap.size = p at *
  replace hp := Lib.hid hp
  go_wp2_with fail
  have HL : Hid (RdL ((w1.alloc (.cells #[.int .u8 97, .int .u8 98] 5 (2, 3))).alloc (.cells #[.slice (some ⟨w1.heap.size, 0, none⟩) 2 2] 26)) (.slice (some ⟨w1.heap.size + 1, 0, none⟩) 1 1) [kx] (p :: (Value.slice none 0 0).ownBlock.toList)) := by
    have := RdL_one (T := 26) (S := p :: (Value.slice none 0 0).ownBlock.toList) (Rd_lit w1 5 (2, 3) kx) (by intro _ k hk; simp [Value.ownBlock] at hk ⊢; omega) (by simp [Value.ownBlock]; omega)
    rw [World.size_alloc] at this
    exact this
  have H2 := Lib.hid ((H1.out.alloc (.cells #[.int .u8 97, .int .u8 98] 5 (2, 3))).alloc (.cells #[.slice (some ⟨w1.heap.size, 0, none⟩) 2 2] 26))
  refine (WBlob_fits H2.out (L := [kx]) HL.out (by decide)).mono ?_
  rintro e w2 ⟨rfl, hw2⟩
  obtain ⟨q2, c2, h2, hc2, -⟩ := hw2.own
  have B2 := Lib.hid (bchg ((B1.out.alloc (by omega) (.cells #[.int .u8 97, .int .u8 98] 5 (2, 3))).alloc (by simp; omega) (.cells #[.slice (some ⟨w1.heap.size, 0, none⟩) 2 2] 26)) hc2 (by simp; omega) (by intro k hk; simp [Value.ownBlock] at hk; omega))
  have z2 : p < w2.heap.size := h2.lt
  have z2' : p ≤ w2.heap.size := by omega
  have H3 := Lib.hid h2
  clear h2 hc2 hw2 H2 HL H1 B1 z1
  go_wp2_with fail
  refine (WBytes_any H3.out (by decide)).mono ?_
  rintro e w3 ⟨u3, rfl, hu3⟩
  have R3 := Lib.hid hu3.rd
  have B3 := Lib.hid (bthen B2.out hu3.2.2.1 z2')
  have H4 := Lib.hid (H3.out.on hu3.2.2.1)
  have z3 : p < w3.heap.size := H4.out.lt
  obtain ⟨q3, c3, rfl⟩ := hu3.1
  clear hu3 H3 B2 z2 z2'
  go_wp2_with fail
  refine (NewReader_any R3.out (by decide)).mono ?_
  rintro e w4 ⟨r, v4, rfl, hr4, hrz, hb4, hv4⟩
  have B4 := Lib.hid (bthen B3.out hb4 (by omega))
  have H5 := Lib.hid (H4.out.on hb4)
  have HG := Lib.hid (fun g (hg : _ = some g) => (H4.out.own.lt g hg).2)
  have R4 := Lib.hid hr4
  have hrp : r ≠ p := by omega
  have HV4 := Lib.hid hv4
  have z4 : w3.heap.size ≤ w4.heap.size := hb4.size
  clear hr4 hb4 hv4 B3 H4 R3
  go_wp2_with fail
  refine (RBlob_ok R4.out (ys := kx) (rest := []) (by unfold Bytes; decide) (by rfl) (by decide)).mono ?_
  rintro e w5 ⟨q5, c5, rfl, ho5, hr5, hc5, hf5⟩
  have R5 := Lib.hid (rd_of_row ho5)
  have B5 := Lib.hid (bchg B4.out hc5 (by omega) (by intro k hk; simp at hk; omega))
  have hz5 : p < w5.heap.size := Nat.lt_of_lt_of_le (by omega) hc5.size
  have H6 := Lib.hid (H5.out.chg hc5 (by simp; omega) (fun g hg hm => by
    obtain rfl := List.mem_singleton.1 hm
    have := HG.out g hg
    omega))
  have S5 := R5.out.str (P := Try.prog) Try.underlying26 Try.underlying5 Try.underlying9
  rw [kx_str] at S5
  replace S5 := Lib.hid S5
  have R5r := Lib.hid hr5
  clear ho5 hr5 hc5 hf5 HG H5 R4 HV4 B4
  go_wp2_with fail
  refine (num_any _ _).mono ?_
  rintro e wx ⟨rfl, rfl⟩
  go_wp2_with fail
  refine (WBytes_any H6.out (by decide)).mono ?_
  rintro e w6 ⟨u6, rfl, hu6⟩
  have S6 := hu6.rd.str (P := Try.prog) Try.underlying26 Try.underlying5 Try.underlying9
  rw [kw_str] at S6
  have S5' := (R5.out.on hu6.2.2.1).str (P := Try.prog) Try.underlying26 Try.underlying5 Try.underlying9
  rw [kx_str] at S5'
  have B6 := Lib.hid (bthen B5.out hu6.2.2.1 (by omega))
  have R6 := Lib.hid (R5r.out.on hu6.2.2.1)
  clear hu6 S5 R5 H6 B5 R5r
  go_wp2_with fail
  refine (Done_all R6.out).mono ?_
  rintro e w7 ⟨m, rfl, rfl⟩
  go_wp2_with fail
  refine (num_any _ _).mono ?_
  rintro e wx ⟨rfl, rfl⟩
  go_wp2_with fail
  go_ret
  exact ⟨rfl, by rw [hp.out]; exact below_drewN B6.out _⟩
end Go.Proofs.Ytigpiejjblfenaa
