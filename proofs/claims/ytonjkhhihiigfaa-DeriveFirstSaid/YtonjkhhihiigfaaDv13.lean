/-
  Where the batch of a number stands.; What the program reads of bytes as a message, or a Tx, into a part of a block.; Inputs: rows of 24 cells; which may be.
-/
import Derived.Test.YtonjkhhihiigfaaDv10
import Derived.Test.YtonjkhhihiigfaaDv11
import Derived.Test.YtonjkhhihiigfaaDv12
namespace Go.Proofs.Ytonjkhhihiigfaa
set_option maxRecDepth 100000
open Go.RowKit

/-- Whether bytes are a batch of the number n. -/
def hit (n : Int) (b : List Int) : Bool := (bE b == 0) && (bGe b == n)
def fIn (n : Int) (bs : List (List Int)) : Option Nat := bs.findIdx? (hit n)
def fScan (Ls : List Bk) (n : Int) : Nat → Nat → Option (Nat × Nat)
  | _, 0 => none
  | b, k + 1 => match fIn n (Ls.getD (b - 1) bk0).bs with
    | some i => some (b, i)
    | none => fScan Ls n (b + 1) k
/-- The first batch of the number n, within its window. -/
def fFind (Ls : List Bk) (n k : Int) : Option (Nat × Nat) := if wOk k = true ∧ 1 ≤ n ∧ n < Ls.length then fScan Ls n (n.toNat + 1) (min (n.toNat + k.toNat) Ls.length - n.toNat) else none
def foX (Ls : List Bk) : Option (Nat × Nat) → List Int
  | none => []
  | some (b, i) => (Ls.getD (b - 1) bk0).bs.getD i []
def foB : Option (Nat × Nat) → Int
  | none => 0
  | some (b, _) => b
def foI : Option (Nat × Nat) → Int
  | none => 0
  | some (_, i) => i
def foE (Ls : List Bk) (o : Option (Nat × Nat)) : Int := if o.isSome = true then bGe (foX Ls o) else 0
def foL (Ls : List Bk) (o : Option (Nat × Nat)) : List Tg := if o.isSome = true then bGl (foX Ls o) else []
theorem fIn_none {n : Int} {bs : List (List Int)} (h : ∀ j, j < bs.length → hit n (bs.getD j []) = false) : fIn n bs = none := by
  unfold fIn
  rw [List.findIdx?_eq_none_iff]
  intro x hx
  obtain ⟨i, hi, rfl⟩ := List.getElem_of_mem hx
  have := h i hi
  have e : bs.getD i [] = bs[i] := by simp [List.getD, hi]
  rw [e] at this
  exact this
theorem fIn_some {n : Int} {bs : List (List Int)} {i : Nat} (hi : i < bs.length) (h : hit n (bs.getD i []) = true) (hp : ∀ j, j < i → hit n (bs.getD j []) = false) : fIn n bs = some i := by
  unfold fIn
  rw [List.findIdx?_eq_some_iff_getElem]
  have e : ∀ j, j < bs.length → bs.getD j [] = bs[j]! := fun j hj => by simp [List.getD, hj]
  refine ⟨hi, ?_, fun j hj => ?_⟩
  · have e : bs.getD i [] = bs[i] := by simp [List.getD, hi]
    rw [e] at h; exact h
  · have := hp j hj
    have e : bs.getD j [] = bs[j] := by simp [List.getD, show j < bs.length by omega]
    rw [e] at this
    simp [this]
theorem fScan_stop (Ls : List Bk) (n : Int) (b : Nat) : fScan Ls n b 0 = none := rfl
theorem fScan_hit {Ls : List Bk} {n : Int} {b k i : Nat} (h : fIn n (Ls.getD (b - 1) bk0).bs = some i) : fScan Ls n b (k + 1) = some (b, i) := by
  unfold fScan; rw [h]
theorem fScan_on {Ls : List Bk} {n : Int} {b k : Nat} (h : fIn n (Ls.getD (b - 1) bk0).bs = none) : fScan Ls n b (k + 1) = fScan Ls n (b + 1) k := by
  conv => lhs; unfold fScan
  rw [h]
/-- What find answers. -/
def FdP (Ls : List Bk) (o : Option (Nat × Nat)) (w : World) (e : Ending) (w' : World) : Prop := ∃ q c, e = .returned (.tuple #[.int .i64 (foB o), .int .i64 (foI o), .agg #[.int .u64 (foE Ls o), .slice q (foL Ls o).length c], .bool o.isSome]) ∧ RwF 10 tg0 PTx w' (fun x => w.heap.size ≤ x) q (foL Ls o) ∧ Below w.heap.size w w'
theorem FdP.no {Ls : List Bk} {w W : World} (hb : Below w.heap.size w W) : FdP Ls none w (.returned (.tuple #[.int .i64 0, .int .i64 0, .agg #[.int .u64 0, .slice none 0 0], .bool false])) W := ⟨none, 0, rfl, .inl rfl, hb⟩
theorem FdP.yes {Ls : List Bk} {w W : World} {b i : Nat} {q : Option Addr} {c : Nat} {X : List Int} (hX : (Ls.getD (b - 1) bk0).bs.getD i [] = X) (hr : RwF 10 tg0 PTx W (fun x => w.heap.size ≤ x) q (bGl X)) (hb : Below w.heap.size w W) : FdP Ls (some (b, i)) w (.returned (.tuple #[.int .i64 (b : Int), .int .i64 (i : Int), .agg #[.int .u64 (bGe X), .slice q (bGl X).length c], .bool true])) W := by
  subst hX
  exact ⟨q, c, rfl, hr, hb⟩
theorem cell_rowOfD {w : World} {b o n : Nat} {cs : List Value} (h : rowOf w b o n = cs) {j : Nat} {v : Value} (hj : cs[j]? = some v) : w.cell? ⟨b, o + j, none⟩ = some v := by
  unfold rowOf at h
  cases hb : w.heap[b]? with
  | none => rw [hb] at h; subst h; simp at hj
  | some x =>
    rw [hb] at h
    cases x with
    | cells C t fr =>
      rw [Joins.cell_of_block hb]
      simp only at h
      rw [← h, Array.getElem?_toList] at hj
      rw [Array.getElem?_extract] at hj
      split at hj
      · exact hj
      · simp at hj
    | _ => simp at h; subst h; simp at hj
theorem RwF.twoF {W : World} {B : Nat} {q : Option Addr} {L : List Tg} {u v : Value} (h : RwF 10 tg0 PTx W (fun x => B + 1 ≤ x) q L) : RwF 10 tg0 PTx ((W.setCell ⟨B, 0, none⟩ u).setCell ⟨B, 1, none⟩ v) (fun x => B + 1 ≤ x) q L :=
  h.agr PTx_ok (by decide) (Agr.chg (K := [B]) (((Chg.refl _ _).setCell (p := ⟨B, 0, none⟩) (.inl (by simp)) _).setCell (p := ⟨B, 1, none⟩) (.inl (by simp)) _) (fun x hx hm => by
    obtain rfl : x = B := by simpa using hm
    omega))
theorem row_cell {n : Nat} {w : World} {b off i j : Nat} {r : List Value} {v : Value} (h : rowOf w b (off + i * n) n = r) (hr : r.length = n) (hj : r[j]? = some v) : w.cell? ⟨b, off + i * n + j, none⟩ = some v := by
  have _ := hr
  have := cell_rowOfD (w := w) (b := b) (o := off + i * n) (n := n) h (j := j) hj
  exact this

set_option maxHeartbeats 8000000 in
theorem find_any {w : World} {F : Fp} {Ls : List Bk} {q : Option Addr} {c : Nat} {n k : Int} (hr : RwF 2 bk0 PBk w F q Ls) (ok : BksOk Ls) (hl : Ls.length ≤ 3000000000000) :
    Calls Try.prog 27 #[.slice q Ls.length c, .int .i64 n, .int .i64 k] w (FdP Ls (fFind Ls n k) w) := by
  have HR : Hid (∀ W, Below w.heap.size w W → RwF 2 bk0 PBk W F q Ls) := fun W hb => hr.on PBk_ok (by decide) hb
  have OK := Lib.hid ok
  have H0 := Lib.hid hr
  have LL := Lib.hid hl
  have NO := Lib.hid (fun (W : World) (hb : Below w.heap.size w W) => FdP.no (Ls := Ls) hb)
  have YES := Lib.hid (fun (W : World) (b i : Nat) (q' : Option Addr) (c' : Nat) (X : List Int) (hX : (Ls.getD (b - 1) bk0).bs.getD i [] = X) (hr : RwF 10 tg0 PTx W (fun x => w.heap.size ≤ x) q' (bGl X)) (hb : Below w.heap.size w W) => FdP.yes (c := c') hX hr hb)
  have HF : Hid (fFind Ls n k = if wOk k = true ∧ 1 ≤ n ∧ n < Ls.length then fScan Ls n (n.toNat + 1) (min (n.toNat + k.toNat) Ls.length - n.toNat) else none) := rfl
  have B0 := Lib.hid ((Below.refl w.heap.size w).alloc (Nat.le_refl _) (.cells #[.int .u64 0, .slice none 0 0] 78))
  have R0 : Hid ((w.alloc (.cells #[.int .u64 0, .slice none 0 0] 78)).heap[w.heap.size]? = some (.cells #[.int .u64 0, .slice none 0 0] 78 (0, 0))) := heap_alloc_new w (.cells #[.int .u64 0, .slice none 0 0] 78)
  have KW := Lib.hid (fun (W : World) => rightWindow_any k W)
  have HW : Hid (wOk k = decide (1 ≤ k ∧ k ≤ 64)) := rfl
  obtain ⟨o, ho⟩ : ∃ o, fFind Ls n k = o := ⟨_, rfl⟩
  rw [ho] at HF ⊢
  obtain ⟨wk, hwk⟩ : ∃ x, wOk k = x := ⟨_, rfl⟩
  rw [hwk] at HF KW HW
  clear hr ok ho hwk
  have FIN : Hid (∀ (W : World) (hb : Below w.heap.size w W) (hR : W.heap[w.heap.size]? = some (.cells #[.int .u64 0, .slice none 0 0] 78 (0, 0))), W.cell? ⟨w.heap.size, 0, none⟩ = some (.int .u64 0) ∧ W.cell? ⟨w.heap.size, 1, none⟩ = some (.slice none 0 0) ∧ W.frozen? ⟨w.heap.size, 0, none⟩ = false ∧ W.frozen? ⟨w.heap.size, 1, none⟩ = false) := fun W hb hR =>
    ⟨(Joins.cell_of_block hR 0).trans rfl, (Joins.cell_of_block hR 1).trans rfl, Joins.unfrozen_of_block hR 0, Joins.unfrozen_of_block hR 1⟩
  have TWO : Hid (∀ (W : World) (x : Int) (q1 : Option Addr) (n1 c1 : Nat) (y : Int) (q2 : Option Addr) (n2 c2 : Nat), W.heap[w.heap.size]? = some (.cells #[.int .u64 x, .slice q1 n1 c1] 78 (0, 0)) → ((W.setCell ⟨w.heap.size, 0, none⟩ (.int .u64 y)).setCell ⟨w.heap.size, 1, none⟩ (.slice q2 n2 c2)).heap[w.heap.size]? = some (.cells #[.int .u64 y, .slice q2 n2 c2] 78 (0, 0))) := fun W x q1 n1 c1 y q2 n2 c2 h => Joins.block_setCell (Joins.block_setCell h _) _
  have BEL : Hid (∀ (W : World) (u v : Value), Below w.heap.size w W → Below w.heap.size w ((W.setCell ⟨w.heap.size, 0, none⟩ u).setCell ⟨w.heap.size, 1, none⟩ v)) := fun W u v hb => (hb.setCell (p := ⟨_, 0, none⟩) (by simp) _).setCell (p := ⟨_, 1, none⟩) (by simp) _
  go_enter Try.func27, Try.ntmps27
  go_wp2_with fail
  generalize w.alloc (.cells #[.int .u64 0, .slice none 0 0] 78) = w0 at *
  go_step3
  go_wp2_with fail
  refine (KW.out _).mono ?_
  rintro e wz ⟨rfl, hwz⟩
  obtain rfl := hwz.symm
  clear hwz
  cases wk with
  | false =>
    have ON : o = none := by rw [HF.out]; exact if_neg (fun h => by simp at h)
    subst ON
    clear HF YES
    obtain ⟨r0, r1, y0, y1⟩ := FIN.out _ B0.out R0.out
    have hb9 := TWO.out _ _ _ _ _ 0 none 0 0 R0.out
    have x0 := (Joins.cell_of_block hb9 0).trans (rfl : _ = some _)
    have x1 := (Joins.cell_of_block hb9 1).trans (rfl : _ = some _)
    have BX := Lib.hid (BEL.out _ (.int .u64 0) (.slice none 0 0) B0.out)
    clear hb9
    go_wp2_with fail
    refine bodyPost_ret (v := .tuple #[.int .i64 0, .int .i64 0, .agg #[.int .u64 0, .slice none 0 0], .bool false]) (by simp [results, Try.results27, go_sem, x0, x1]) rfl (NO.out _ BX.out)
  | true =>
  have hk : 1 ≤ k ∧ k ≤ 64 := by simpa using HW.out.symm
  by_cases hn1 : n < 1
  · have d1 : decide (n < 1) = true := decide_eq_true hn1
    have ON : o = none := by rw [HF.out]; exact if_neg (fun h => by omega)
    subst ON
    clear HF YES
    obtain ⟨r0, r1, y0, y1⟩ := FIN.out _ B0.out R0.out
    have hb9 := TWO.out _ _ _ _ _ 0 none 0 0 R0.out
    have x0 := (Joins.cell_of_block hb9 0).trans (rfl : _ = some _)
    have x1 := (Joins.cell_of_block hb9 1).trans (rfl : _ = some _)
    have BX := Lib.hid (BEL.out _ (.int .u64 0) (.slice none 0 0) B0.out)
    clear hb9
    go_wp2_with fail
    refine bodyPost_ret (v := .tuple #[.int .i64 0, .int .i64 0, .agg #[.int .u64 0, .slice none 0 0], .bool false]) (by simp [results, Try.results27, go_sem, x0, x1]) rfl (NO.out _ BX.out)
  by_cases hn2 : n ≥ (Ls.length : Int)
  · have d1 : decide (n < 1) = false := decide_eq_false hn1
    have d2 : decide (n ≥ (Ls.length : Int)) = true := decide_eq_true hn2
    have d2' : decide ((Ls.length : Int) ≤ n) = true := decide_eq_true hn2
    have ON : o = none := by rw [HF.out]; exact if_neg (fun h => by omega)
    subst ON
    clear HF YES
    obtain ⟨r0, r1, y0, y1⟩ := FIN.out _ B0.out R0.out
    have hb9 := TWO.out _ _ _ _ _ 0 none 0 0 R0.out
    have x0 := (Joins.cell_of_block hb9 0).trans (rfl : _ = some _)
    have x1 := (Joins.cell_of_block hb9 1).trans (rfl : _ = some _)
    have BX := Lib.hid (BEL.out _ (.int .u64 0) (.slice none 0 0) B0.out)
    clear hb9
    go_wp2_with fail
    refine bodyPost_ret (v := .tuple #[.int .i64 0, .int .i64 0, .agg #[.int .u64 0, .slice none 0 0], .bool false]) (by simp [results, Try.results27, go_sem, x0, x1]) rfl (NO.out _ BX.out)
  have d1 : decide (n < 1) = false := decide_eq_false hn1
  have d2 : decide (n ≥ (Ls.length : Int)) = false := decide_eq_false hn2
  have d2' : decide ((Ls.length : Int) ≤ n) = false := decide_eq_false hn2
  obtain ⟨m, rfl⟩ : ∃ m : Nat, n = m := ⟨n.toNat, by omega⟩
  obtain ⟨kk, rfl⟩ : ∃ x : Nat, k = x := ⟨k.toNat, by omega⟩
  obtain ⟨N, hN⟩ : ∃ N, min (m + kk) Ls.length = N := ⟨_, rfl⟩
  have HO : Hid (o = fScan Ls m (m + 1) (N - m)) := by
    show _ = _
    rw [HF.out, if_pos ⟨rfl, by omega, by omega⟩]
    simp only [Int.toNat_natCast, hN]
  have hl' := LL.out
  have hmN : m ≤ N := by omega
  have hNk : N ≤ m + kk := by omega
  have hNl : N ≤ Ls.length := by omega
  have HN : Hid (∀ b : Nat, N ≤ b → b + 1 ≤ m + kk → ¬ b + 1 ≤ Ls.length) := fun b h1 h2 h3 => by omega
  have wr1 : IntKind.i64.wrap ((m : Int) + 1) = (m : Int) + 1 := IntWalk.i64_in _ (by omega)
  have wmk : IntKind.i64.wrap ((m : Int) + (kk : Int)) = (m : Int) + (kk : Int) := IntWalk.i64_in _ (by omega)
  have um : IntKind.u64.wrap (m : Int) = (m : Int) := by rw [IntKind.wrap_u64]; omega
  have d2m : decide (Ls.length ≤ m) = false := by rw [decide_eq_false_iff_not]; omega
  have d2n : ¬ Ls.length ≤ m := by omega
  clear HF hN
  go_wp2_with fail
  go_step3
  go_wp2_with fail
  clear wr1 d1 d2 d2' d2m d2n
  go_loopw [6, 7, 9] (fun bv pv fv wr => ∃ (b : Nat), bv = .int .i64 ((b : Int) + 1) ∧ pv = .int .i64 0 ∧ fv = .bool false ∧ m ≤ b ∧ b ≤ N ∧ Hid (o = fScan Ls m (b + 1) (N - b)) ∧ Hid (Below w.heap.size w wr) ∧ Hid (wr.heap[w.heap.size]? = some (.cells #[.int .u64 0, .slice none 0 0] 78 (0, 0)))) (fun bv _ _ _ => N + 1 - (intOf bv).toNat)
  case atStart => exact ⟨m, rfl, rfl, rfl, by omega, hmN, HO, B0, R0⟩
  case round =>
    clear HO B0 R0
    obtain ⟨b, rfl, rfl, rfl, hmb, hbN, hO, hB, hR⟩ := hrel
    have wb1 : IntKind.i64.wrap ((b : Int) + 1 + 1) = (b : Int) + 1 + 1 := IntWalk.i64_in _ (by omega)
    have wb0 : IntKind.i64.wrap ((b : Int) + 1 - 1) = (b : Int) := by
      rw [show (b : Int) + 1 - 1 = (b : Int) by omega]; exact IntWalk.i64_in _ (by omega)
    by_cases hlt : b < N
    · have c1i : (b : Int) + 1 ≤ (m : Int) + (kk : Int) := by omega
      have c2i : (b : Int) + 1 ≤ (Ls.length : Int) := by omega
      have c1d : decide ((b : Int) + 1 ≤ (m : Int) + (kk : Int)) = true := decide_eq_true c1i
      have c2d : decide ((b : Int) + 1 ≤ (Ls.length : Int)) = true := decide_eq_true c2i
      have hbl : b < Ls.length := by omega
      obtain ⟨bb, off, r, hq, hFb, hr2, hrow, qd, kd, qb, kb, hre, hds, hbs⟩ := H0.out.get hbl
      subst hq hre
      have c1w := row_cell hrow hr2 (j := 1) (v := .slice qb (Ls.getD b bk0).bs.length kb) rfl
      have cB := (hB.out.cell (lt_of_cell c1w)).trans c1w
      have HBS := Lib.hid hbs
      have OKB := Lib.hid ((OK.out.get b).bs)
      have HBL := Lib.hid ((OK.out.get b).bl)
      have HSC : Hid (∀ i, fIn m (Ls.getD b bk0).bs = some i → o = some (b + 1, i)) := fun i h => by
        rw [hO.out, show N - b = (N - (b + 1)) + 1 by omega]
        exact fScan_hit h
      have HSN : Hid (fIn m (Ls.getD b bk0).bs = none → o = fScan Ls m (b + 1 + 1) (N - (b + 1))) := fun h => by
        rw [hO.out, show N - b = (N - (b + 1)) + 1 by omega]
        exact fScan_on h
      have HYX : Hid (∀ i : Nat, (Ls.getD (b + 1 - 1) bk0).bs.getD i [] = (Ls.getD b bk0).bs.getD i []) := fun i => rfl
      obtain ⟨bs, hbse⟩ : ∃ bs, (Ls.getD b bk0).bs = bs := ⟨_, rfl⟩
      rw [hbse] at cB HBS OKB HSC HSN HYX HBL
      clear hbs hds hrow hr2 hFb c1w hbse
      go_wp2_with fail
      clear c1i c2i c1d c2d cB
      go_loopw [50, 7, 9] (fun jv pv fv wr => ∃ (j : Nat), jv = .int .i64 (j : Int) ∧ pv = .int .i64 0 ∧ fv = .bool false ∧ j ≤ bs.length ∧ Hid (∀ j', j' < j → hit m (bs.getD j' []) = false) ∧ Hid (Below w.heap.size w wr) ∧ Hid (wr.heap[w.heap.size]? = some (.cells #[.int .u64 0, .slice none 0 0] 78 (0, 0)))) (fun jv _ _ _ => bs.length - (intOf jv).toNat)
      case atStart => exact ⟨0, rfl, rfl, rfl, by omega, fun j hj => by omega, hB, hR⟩
      case round =>
        clear hB hR
        obtain ⟨j, rfl, rfl, rfl, hjl, hJ, hB, hR⟩ := hrel
        by_cases hlj : j < bs.length
        · have HLJ := Lib.hid hlj
          have hbl6 := HBL.out
          obtain ⟨b2, off2, r2, hq2, _, hr3, hrow3, qx, kx, hre2, hxd⟩ := HBS.out.get hlj
          subst hq2 hre2
          have c3w := row_cell hrow3 hr3 (j := 0) (v := .slice qx (bs.getD j []).length kx) rfl
          rw [Nat.mul_one, Nat.add_zero] at c3w
          have cX := (hB.out.cell (lt_of_cell c3w)).trans c3w
          have HX := Lib.hid (hxd.rd.on hB.out)
          obtain ⟨bX, lX⟩ := OKB.out _ (getD_mem (d := []) hlj)
          have KG := Lib.hid (GetBatch_f HX.out bX (by omega))
          unfold GbF at KG
          have HH : Hid (∀ x, hit m (bs.getD j []) = x → ((bE (bs.getD j []) == 0) && (bGe (bs.getD j []) == (m : Int))) = x) := fun x h => h
          have HYj := Lib.hid (HYX.out j)
          obtain ⟨X, hX⟩ : ∃ X, bs.getD j [] = X := ⟨_, rfl⟩
          have HXe := Lib.hid hX
          rw [hX] at cX KG HH HYj
          obtain ⟨E, hE⟩ : ∃ E, bE X = E := ⟨_, rfl⟩
          obtain ⟨e0, he0⟩ : ∃ e0, bGe X = e0 := ⟨_, rfl⟩
          obtain ⟨Y, hY⟩ : ∃ Y, bGl X = Y := ⟨_, rfl⟩
          rw [hE, he0, hY] at KG
          rw [hE, he0] at HH
          have HE0 := Lib.hid he0
          have HY := Lib.hid hY
          clear hxd c3w hrow3 hr3 bX lX hX hE he0 hY HX
          go_wp2_with fail
          clear cX
          refine KG.out.mono ?_
          rintro e w5 ⟨q5, k5, rfl, ry, hb⟩
          have ba : Below w5.heap.size w5 (w5.alloc (.cells #[.int .u64 e0, .slice q5 Y.length k5] 78)) := (Below.refl _ _).alloc (Nat.le_refl _) _
          have hb3 := hb.trans (ba.mono hb.size)
          have K6 := Lib.hid (heap_alloc_new w5 (.cells #[.int .u64 e0, .slice q5 Y.length k5] 78))
          have hWs : w.heap.size < wr.heap.size := (Array.getElem?_eq_some_iff.1 hR.out).1
          have RY6 : Hid (RwF 10 tg0 PTx (w5.alloc (.cells #[.int .u64 e0, .slice q5 Y.length k5] 78)) (fun x => w.heap.size + 1 ≤ x) q5 Y) := (ry.on PTx_ok (by decide) ba).mono PTx_ok (fun x hx => Nat.le_trans hWs hx)
          have B6 := Lib.hid (hB.out.trans (hb3.mono hB.out.size))
          have R6 : Hid ((w5.alloc (.cells #[.int .u64 e0, .slice q5 Y.length k5] 78)).heap[w.heap.size]? = some (.cells #[.int .u64 0, .slice none 0 0] 78 (0, 0))) := by
            show _ = _
            rw [hb3.block _ (Array.getElem?_eq_some_iff.1 hR.out).1]; exact hR.out
          have NE : Hid (w5.heap.size ≠ w.heap.size) := fun e => by
            have := (Array.getElem?_eq_some_iff.1 hR.out).1
            have := hb.size
            omega
          clear ry hb ba hb3 hB hR KG hWs
          cases hz : (E == 0) with
          | false =>
            go_wp2_with fail
            generalize w5.alloc (.cells #[.int .u64 e0, .slice q5 Y.length k5] 78) = w6 at *
            go_roundw
            case rel =>
              refine ⟨j + 1, by go_num, rfl, rfl, by have := HLJ.out; omega, fun j' hj' => ?_, B6, R6⟩
              by_cases h : j' < j
              · exact hJ.out j' h
              · obtain rfl : j' = j := by omega
                rw [HXe.out]
                have := HH.out (hit m X) rfl
                rw [hz, Bool.false_and] at this
                exact this.symm
            case measure => have := HLJ.out; simp [intOf]; omega
          | true =>
            have c0 := (Joins.cell_of_block K6.out 0).trans (rfl : _ = some _)
            cases hz2 : (e0 == (m : Int)) with
            | false =>
              go_wp2_with fail
              clear c0
              generalize w5.alloc (.cells #[.int .u64 e0, .slice q5 Y.length k5] 78) = w6 at *
              go_roundw
              case rel =>
                refine ⟨j + 1, by go_num, rfl, rfl, by have := HLJ.out; omega, fun j' hj' => ?_, B6, R6⟩
                by_cases h : j' < j
                · exact hJ.out j' h
                · obtain rfl : j' = j := by omega
                  rw [HXe.out]
                  have := HH.out (hit m X) rfl
                  rw [hz, hz2, Bool.and_false] at this
                  exact this.symm
              case measure => have := HLJ.out; simp [intOf]; omega
            | true =>
              have OS : Hid (o = some (b + 1, j)) := HSC.out j (fIn_some hlj (by
                rw [HXe.out]
                have := HH.out (hit m X) rfl
                rw [hz, hz2] at this
                exact this.symm) hJ.out)
              have EM : Hid (e0 = (m : Int)) := by show _ = _; simpa using hz2
              clear HH HSC HSN hJ KW NO
              obtain rfl := OS.out
              clear OS
              go_wp2_with fail
              clear hz hz2
              obtain ⟨b1, hbe⟩ : ∃ b, w5.heap.size = b := ⟨_, rfl⟩
              rw [hbe] at K6 NE ⊢
              generalize w5.alloc (.cells #[.int .u64 e0, .slice q5 Y.length k5] 78) = w6 at *
              clear hbe c0
              have c0 := (Joins.cell_of_block K6.out 0).trans (rfl : _ = some _)
              have c1 := (Joins.cell_of_block K6.out 1).trans (rfl : _ = some _)
              obtain ⟨r0, r1, y0, y1⟩ := FIN.out _ B6.out R6.out
              have R8 := Lib.hid (TWO.out _ _ _ _ _ e0 q5 Y.length k5 R6.out)
              have B8 := Lib.hid (BEL.out _ (.int .u64 e0) (.slice q5 Y.length k5) B6.out)
              have RY8 := Lib.hid (RY6.out.twoF (u := .int .u64 e0) (v := .slice q5 Y.length k5))
              clear K6 R6 B6 RY6 NE
              go_region
              go_wp2_with fail
              clear c0 c1 r0 r1 y0 y1
              generalize (w6.setCell ⟨w.heap.size, 0, none⟩ (.int .u64 e0)).setCell ⟨w.heap.size, 1, none⟩ (.slice q5 Y.length k5) = w8 at *
              have r0 := (Joins.cell_of_block R8.out 0).trans (rfl : _ = some _)
              have r1 := (Joins.cell_of_block R8.out 1).trans (rfl : _ = some _)
              have y0 := Joins.unfrozen_of_block R8.out 0
              have y1 := Joins.unfrozen_of_block R8.out 1
              have R10 := TWO.out _ _ _ _ _ e0 q5 Y.length k5 R8.out
              have x0 := (Joins.cell_of_block R10 0).trans (rfl : _ = some _)
              have x1 := (Joins.cell_of_block R10 1).trans (rfl : _ = some _)
              have B10 := BEL.out _ (.int .u64 e0) (.slice q5 Y.length k5) B8.out
              have RY10 := RY8.out.twoF (u := .int .u64 e0) (v := .slice q5 Y.length k5)
              have EY := Lib.hid (YES.out _ (b + 1) j q5 k5 X HYj.out (by rw [HY.out]; exact ((RY10.on PTx_ok (by decide) (Below.refl _ _).drew.drew).mono PTx_ok (fun x hx => Nat.le_of_succ_le hx))) B10.drew.drew)
              rw [HE0.out, HY.out] at EY
              clear R8 B8 RY8 R10 B10 RY10 YES
              go_region
              go_wp2_with fail
              have EZ := EY.out
              push_cast at EZ
              refine bodyPost_ret (v := .tuple #[.int .i64 ((b : Int) + 1), .int .i64 (j : Int), .agg #[.int .u64 e0, .slice q5 Y.length k5], .bool true]) (by simp [results, Try.results27, go_sem, x0, x1]) rfl EZ
        · obtain rfl : j = bs.length := by omega
          have HSS := Lib.hid (HSN.out (fIn_none hJ.out))
          have HLT := Lib.hid hlt
          have HMB := Lib.hid hmb
          clear HSC HSN hJ
          go_wp2_with fail
          go_roundw
          case rel => exact ⟨b + 1, by go_num, rfl, rfl, by have := HMB.out; omega, by have := HLT.out; omega, HSS, hB, hR⟩
          case measure => have := HLT.out; simp [intOf]; omega
    · obtain rfl : b = N := by omega
      have ON : o = none := by rw [hO.out, Nat.sub_self]; rfl
      obtain rfl := ON
      have END : Hid (∀ W, Below w.heap.size w W → FdP Ls none w (.returned (.tuple #[.int .i64 0, .int .i64 0, .agg #[.int .u64 0, .slice none 0 0], .bool false])) W) := fun W hb => NO.out W hb
      obtain ⟨r0, r1, y0, y1⟩ := FIN.out _ hB.out hR.out
      have R10 := TWO.out _ _ _ _ _ 0 none 0 0 hR.out
      have x0 := (Joins.cell_of_block R10 0).trans (rfl : _ = some _)
      have x1 := (Joins.cell_of_block R10 1).trans (rfl : _ = some _)
      have B10 := Lib.hid (Below.drew (BEL.out _ (.int .u64 0) (.slice none 0 0) hB.out))
      by_cases hc1 : b + 1 ≤ m + kk
      · have hc2 := HN.out b (Nat.le_refl _) hc1
        have c1d : decide ((b : Int) + 1 ≤ (m : Int) + (kk : Int)) = true := decide_eq_true (by omega)
        have c2d : decide ((b : Int) + 1 ≤ (Ls.length : Int)) = false := decide_eq_false (by omega)
        clear NO YES R10 hO
        go_wp2_with fail
        go_region
        go_wp2_with fail
        refine bodyPost_ret (v := .tuple #[.int .i64 0, .int .i64 0, .agg #[.int .u64 0, .slice none 0 0], .bool false]) (by simp [results, Try.results27, go_sem, x0, x1]) rfl (END.out _ B10.out)
      · have c1d : decide ((b : Int) + 1 ≤ (m : Int) + (kk : Int)) = false := decide_eq_false (by omega)
        clear NO YES R10 hO
        go_wp2_with fail
        go_region
        go_wp2_with fail
        refine bodyPost_ret (v := .tuple #[.int .i64 0, .int .i64 0, .agg #[.int .u64 0, .slice none 0 0], .bool false]) (by simp [results, Try.results27, go_sem, x0, x1]) rfl (END.out _ B10.out)
end Go.Proofs.Ytonjkhhihiigfaa
namespace Go.Proofs.Ytonjkhhihiigfaa
set_option maxRecDepth 100000
open Go.RowKit

/-- A row in a block of more, of type T. -/
def RIn (w : World) (T : TypeId) (b : Nat) (pre row post : List Value) : Prop := w.heap[b]? = some (.cells (pre ++ (row ++ post)).toArray T (0, 0))
section
variable {w w' : World} {T : TypeId} {b : Nat} {pre row post : List Value}
theorem RIn.lt (h : RIn w T b pre row post) : b < w.heap.size := (Array.getElem?_eq_some_iff.1 h).1
theorem RIn.on (h : RIn w T b pre row post) (hb : Below w.heap.size w w') : RIn w' T b pre row post := by
  unfold RIn at h ⊢
  rw [hb.block _ (Array.getElem?_eq_some_iff.1 h).1]; exact h
theorem RIn.chg {K : List Nat} (h : RIn w T b pre row post) (hc : Chg w w' K) (hb : b ∉ K) : RIn w' T b pre row post := by
  unfold RIn at h ⊢
  rw [hc.block _ (Array.getElem?_eq_some_iff.1 h).1 hb]; exact h
theorem RIn.cell (h : RIn w T b pre row post) {i : Nat} {u : Value} (hu : row[i]? = some u) {o : Nat} (ho : o = pre.length) : w.cell? ⟨b, o + i, none⟩ = some u := by
  subst ho
  rw [Joins.cell_of_block h]
  have hi := (List.getElem?_eq_some_iff.1 hu).1
  simp only [List.getElem?_toArray]
  rw [List.getElem?_append_right (by omega), Nat.add_sub_cancel_left, List.getElem?_append_left hi]
  exact hu
theorem RIn.free (h : RIn w T b pre row post) (i : Nat) : w.frozen? ⟨b, i, none⟩ = false := Joins.unfrozen_of_block h i
theorem RIn.st (h : RIn w T b pre row post) {i : Nat} (hi : i < row.length) (v : Value) {o : Nat} (ho : o = pre.length) : RIn (w.setCell ⟨b, o + i, none⟩ v) T b pre (row.set i v) post := by
  subst ho
  unfold RIn at h ⊢
  rw [Joins.block_setCell (i := pre.length + i) h]
  congr 2
  apply Array.ext'
  simp only [Array.toList_setIfInBounds]
  rw [List.set_append_right _ _ (by omega), Nat.add_sub_cancel_left, List.set_append_left _ _ hi]
theorem RIn.off {e : TypeId} {l : Nat} {v : Value} {ys : List Value} (h : RIn w T b pre row post) (ho : w.ownsRow 0 e 1 v l ys) (ht : T ≠ e) : ∀ g, v.ownBlock = some g → g ∉ [b] := fun g hg hm => by
  obtain rfl : g = b := by simpa using hm
  exact own_ne ho h ht hg
end
/-- What bytes tell as a message, from a place on. -/
def q1 (xs : List Int) (p : Nat) (f : Bool) : Bool := fU f xs p 8
def q2 (xs : List Int) (p : Nat) (f : Bool) : Bool := fU (q1 xs p f) xs (p + 8) 8
def q3 (xs : List Int) (p : Nat) (f : Bool) : Bool := fU (q2 xs p f) xs (p + 8 + 8) 8
def q4 (xs : List Int) (p : Nat) (f : Bool) : Bool := fU (q3 xs p f) xs (p + 8 + 8 + 8) 32
def q5 (xs : List Int) (p : Nat) (f : Bool) : Bool := fU (q4 xs p f) xs (p + 8 + 8 + 8 + 32) 8
def q6 (xs : List Int) (p : Nat) (f : Bool) : Bool := fB (q5 xs p f) xs (p + 8 + 8 + 8 + 32 + 8)
def qM (xs : List Int) (p : Nat) (f : Bool) : Mg := ⟨uV (q1 xs p f) xs p, uV (q2 xs p f) xs (p + 8), uV (q3 xs p f) xs (p + 8 + 8), wV (q4 xs p f) xs (p + 8 + 8 + 8), uV (q5 xs p f) xs (p + 8 + 8 + 8 + 32), bD (q6 xs p f) xs (p + 8 + 8 + 8 + 32 + 8)⟩
def qE (xs : List Int) (p : Nat) (f : Bool) : Nat := p + 8 + 8 + 8 + 32 + 8 + 8 + (qM xs p f).data.length
theorem qM_ok {xs : List Int} (hx : Bytes xs) (p : Nat) (f : Bool) : (qM xs p f).ok := ⟨uV_bd hx _ _, uV_bd hx _ _, uV_bd hx _ _, wV_ok hx _ _, uV_bd hx _ _, bD_bytes hx _ _⟩
theorem qM_len (xs : List Int) (p : Nat) (f : Bool) : (qM xs p f).data.length ≤ 65536 := bD_len (q5 xs p f) xs _ (.inr trivial)

set_option maxHeartbeats 8000000 in
theorem Mgparse_in {w : World} {T : TypeId} {b p o pos : Nat} {v : Value} {xs : List Int} {f : Bool} {pre post : List Value} (hT : T ≠ 5) (hK : RIn w T b pre (mgRow mg0 none 0 0) post) (ho : o = pre.length) (hS : RSt w p v xs pos f) (hx : Bytes xs) (hbp : b ≠ p) :
    Calls Try.prog 100 #[.pointer (some ⟨b, o, none⟩), .pointer (some ⟨p, 0, none⟩)] w fun e w' => ∃ q k, e = .returned (.tuple #[]) ∧ RIn w' T b pre (mgRow (qM xs pos f) q (qM xs pos f).data.length k) post ∧ RSt w' p v xs (qE xs pos f) (q6 xs pos f) ∧ Rd w' (.slice q (qM xs pos f).data.length k) (qM xs pos f).data ∧ (∀ g, (Value.slice q (qM xs pos f).data.length k).ownBlock = some g → w.heap.size ≤ g) ∧ Chg w w' [b, p] := by
  have BX := Lib.hid hx
  have TT := Lib.hid hT
  have HO := Lib.hid ho
  have K0 := Lib.hid hK
  have S0 := Lib.hid hS
  have MM : Hid (qM xs pos f = ⟨uV (q1 xs pos f) xs (pos), uV (q2 xs pos f) xs (pos + 8), uV (q3 xs pos f) xs (pos + 8 + 8), wV (q4 xs pos f) xs (pos + 8 + 8 + 8), uV (q5 xs pos f) xs (pos + 8 + 8 + 8 + 32), bD (q6 xs pos f) xs (pos + 8 + 8 + 8 + 32 + 8)⟩) := rfl
  have ME : Hid (qE xs pos f = pos + 8 + 8 + 8 + 32 + 8 + 8 + (qM xs pos f).data.length) := rfl
  obtain ⟨f1, e1⟩ : ∃ f', q1 xs pos f = f' := ⟨_, rfl⟩
  obtain ⟨f2, e2⟩ : ∃ f', q2 xs pos f = f' := ⟨_, rfl⟩
  obtain ⟨f3, e3⟩ : ∃ f', q3 xs pos f = f' := ⟨_, rfl⟩
  obtain ⟨f4, e4⟩ : ∃ f', q4 xs pos f = f' := ⟨_, rfl⟩
  obtain ⟨f5, e5⟩ : ∃ f', q5 xs pos f = f' := ⟨_, rfl⟩
  obtain ⟨f6, e6⟩ : ∃ f', q6 xs pos f = f' := ⟨_, rfl⟩
  rw [e1, e2, e3, e4, e5, e6] at MM
  have d1 := Lib.hid (show fU f xs (pos) 8 = f1 from e1)
  have d2 := Lib.hid (show fU f1 xs (pos + 8) 8 = f2 by rw [← e1]; exact e2)
  have d3 := Lib.hid (show fU f2 xs (pos + 8 + 8) 8 = f3 by rw [← e2]; exact e3)
  have d4 := Lib.hid (show fU f3 xs (pos + 8 + 8 + 8) 32 = f4 by rw [← e3]; exact e4)
  have d5 := Lib.hid (show fU f4 xs (pos + 8 + 8 + 8 + 32) 8 = f5 by rw [← e4]; exact e5)
  have d6 := Lib.hid (show fB f5 xs (pos + 8 + 8 + 8 + 32 + 8) = f6 by rw [← e5]; exact e6)
  have E6x := Lib.hid e6
  obtain ⟨z1, h1⟩ : ∃ z, uV f1 xs (pos) = z := ⟨_, rfl⟩
  obtain ⟨z2, h2⟩ : ∃ z, uV f2 xs (pos + 8) = z := ⟨_, rfl⟩
  obtain ⟨z3, h3⟩ : ∃ z, uV f3 xs (pos + 8 + 8) = z := ⟨_, rfl⟩
  obtain ⟨z4, h4⟩ : ∃ z, wV f4 xs (pos + 8 + 8 + 8) = z := ⟨_, rfl⟩
  obtain ⟨z5, h5⟩ : ∃ z, uV f5 xs (pos + 8 + 8 + 8 + 32) = z := ⟨_, rfl⟩
  obtain ⟨D6, h6⟩ : ∃ z, bD f6 xs (pos + 8 + 8 + 8 + 32 + 8) = z := ⟨_, rfl⟩
  rw [h1, h2, h3, h4, h5, h6] at MM
  have Z1 := Lib.hid h1
  have Z2 := Lib.hid h2
  have Z3 := Lib.hid h3
  have Z4 := Lib.hid h4
  have Z5 := Lib.hid h5
  have Z6 := Lib.hid h6
  clear hT hK hS hx ho e1 e2 e3 e4 e5 e6 h1 h2 h3 h4 h5 h6
  go_enter Try.func100, Try.ntmps100
  go_wp2_with fail
  refine (Uint_st S0.out BX.out).mono ?_
  rintro e w1 ⟨rfl, hs, hc⟩
  rw [d1.out] at hs ⊢
  rw [Z1.out]
  have S1 := Lib.hid hs
  have K1 := Lib.hid (K0.out.chg hc (by simpa using hbp))
  have C1 : Hid (Chg w w1 [b, p]) := (hc.more (by simp))
  clear hs hc S0 K0
  go_wp2_with fail
  refine (Uint_st S1.out BX.out).mono ?_
  rintro e w2 ⟨rfl, hs, hc⟩
  rw [d2.out] at hs ⊢
  rw [Z2.out]
  have S2 := Lib.hid hs
  have K2 := Lib.hid (K1.out.chg hc (by simpa using hbp))
  have C2 : Hid (Chg w w2 [b, p]) := C1.out.trans (hc.more (by simp)) (fun x hx _ => hx)
  clear hs hc S1 K1 C1
  go_wp2_with fail
  refine (Uint_st S2.out BX.out).mono ?_
  rintro e w3 ⟨rfl, hs, hc⟩
  rw [d3.out] at hs ⊢
  rw [Z3.out]
  have S3 := Lib.hid hs
  have K3 := Lib.hid (K2.out.chg hc (by simpa using hbp))
  have C3 : Hid (Chg w w3 [b, p]) := C2.out.trans (hc.more (by simp)) (fun x hx _ => hx)
  clear hs hc S2 K2 C2
  have c0 : w3.cell? ⟨b, o, none⟩ = some (.int .u64 0) := K3.out.cell (i := 0) rfl HO.out
  have y0 := K3.out.free (o)
  have c1 : w3.cell? ⟨b, o + 1, none⟩ = some (.int .u64 0) := K3.out.cell (i := 1) rfl HO.out
  have y1 := K3.out.free (o + 1)
  have c2 : w3.cell? ⟨b, o + 2, none⟩ = some (.int .u64 0) := K3.out.cell (i := 2) rfl HO.out
  have y2 := K3.out.free (o + 2)
  have cs : Chg w3 (((w3.setCell ⟨b, o, none⟩ (.int .u64 z1)).setCell ⟨b, o + 1, none⟩ (.int .u64 z2)).setCell ⟨b, o + 2, none⟩ (.int .u64 z3)) [b] := ((((Chg.refl _ [b]).setCell (p := ⟨b, o, none⟩) (.inl (by simp)) _).setCell (p := ⟨b, o + 1, none⟩) (.inl (by simp)) _).setCell (p := ⟨b, o + 2, none⟩) (.inl (by simp)) _)
  have K4 : Hid (RIn (((w3.setCell ⟨b, o, none⟩ (.int .u64 z1)).setCell ⟨b, o + 1, none⟩ (.int .u64 z2)).setCell ⟨b, o + 2, none⟩ (.int .u64 z3)) T b pre (mgRow ⟨z1, z2, z3, ⟨0, 0, 0, 0⟩, 0, []⟩ none 0 0) post) := (RIn.st (i := 2) (RIn.st (i := 1) (RIn.st (i := 0) K3.out (by simp [mgRow]) (.int .u64 z1) HO.out) (by simp [mgRow]) (.int .u64 z2) HO.out) (by simp [mgRow]) (.int .u64 z3) HO.out)
  have S4 := Lib.hid (S3.out.chg2 cs (by simpa using Ne.symm hbp) (fun ho => K3.out.off ho TT.out))
  have C4 : Hid (Chg w (((w3.setCell ⟨b, o, none⟩ (.int .u64 z1)).setCell ⟨b, o + 1, none⟩ (.int .u64 z2)).setCell ⟨b, o + 2, none⟩ (.int .u64 z3)) [b, p]) := C3.out.trans (cs.more (by simp)) (fun x hx _ => hx)
  clear cs S3 C3 K3
  go_wp2_with fail
  clear c0 y0 c1 y1 c2 y2
  generalize (((w3.setCell ⟨b, o, none⟩ (.int .u64 z1)).setCell ⟨b, o + 1, none⟩ (.int .u64 z2)).setCell ⟨b, o + 2, none⟩ (.int .u64 z3)) = w4 at *
  refine (Wide_st S4.out BX.out).mono ?_
  rintro e w5 ⟨rfl, hs, hc⟩
  rw [d4.out] at hs ⊢
  rw [Z4.out]
  unfold w4v
  have S5 := Lib.hid hs
  have K5 := Lib.hid (K4.out.chg hc (by simpa using hbp))
  have C5 : Hid (Chg w w5 [b, p]) := C4.out.trans (hc.more (by simp)) (fun x hx _ => hx)
  clear hs hc S4 K4 C4
  have c3 : w5.cell? ⟨b, o + 3, none⟩ = some (.int .u64 0) := K5.out.cell (i := 3) rfl HO.out
  have y3 := K5.out.free (o + 3)
  have c4 : w5.cell? ⟨b, o + 4, none⟩ = some (.int .u64 0) := K5.out.cell (i := 4) rfl HO.out
  have y4 := K5.out.free (o + 4)
  have c5 : w5.cell? ⟨b, o + 5, none⟩ = some (.int .u64 0) := K5.out.cell (i := 5) rfl HO.out
  have y5 := K5.out.free (o + 5)
  have c6 : w5.cell? ⟨b, o + 6, none⟩ = some (.int .u64 0) := K5.out.cell (i := 6) rfl HO.out
  have y6 := K5.out.free (o + 6)
  have cs : Chg w5 ((((w5.setCell ⟨b, o + 3, none⟩ (.int .u64 z4.a)).setCell ⟨b, o + 4, none⟩ (.int .u64 z4.b)).setCell ⟨b, o + 5, none⟩ (.int .u64 z4.c)).setCell ⟨b, o + 6, none⟩ (.int .u64 z4.d)) [b] := (((((Chg.refl _ [b]).setCell (p := ⟨b, o + 3, none⟩) (.inl (by simp)) _).setCell (p := ⟨b, o + 4, none⟩) (.inl (by simp)) _).setCell (p := ⟨b, o + 5, none⟩) (.inl (by simp)) _).setCell (p := ⟨b, o + 6, none⟩) (.inl (by simp)) _)
  have K6 : Hid (RIn ((((w5.setCell ⟨b, o + 3, none⟩ (.int .u64 z4.a)).setCell ⟨b, o + 4, none⟩ (.int .u64 z4.b)).setCell ⟨b, o + 5, none⟩ (.int .u64 z4.c)).setCell ⟨b, o + 6, none⟩ (.int .u64 z4.d)) T b pre (mgRow ⟨z1, z2, z3, z4, 0, []⟩ none 0 0) post) := (RIn.st (i := 6) (RIn.st (i := 5) (RIn.st (i := 4) (RIn.st (i := 3) K5.out (by simp [mgRow]) (.int .u64 z4.a) HO.out) (by simp [mgRow]) (.int .u64 z4.b) HO.out) (by simp [mgRow]) (.int .u64 z4.c) HO.out) (by simp [mgRow]) (.int .u64 z4.d) HO.out)
  have S6 := Lib.hid (S5.out.chg2 cs (by simpa using Ne.symm hbp) (fun ho => K5.out.off ho TT.out))
  have C6 : Hid (Chg w ((((w5.setCell ⟨b, o + 3, none⟩ (.int .u64 z4.a)).setCell ⟨b, o + 4, none⟩ (.int .u64 z4.b)).setCell ⟨b, o + 5, none⟩ (.int .u64 z4.c)).setCell ⟨b, o + 6, none⟩ (.int .u64 z4.d)) [b, p]) := C5.out.trans (cs.more (by simp)) (fun x hx _ => hx)
  clear cs S5 C5 K5
  go_wp2_with fail
  clear c3 y3 c4 y4 c5 y5 c6 y6
  generalize ((((w5.setCell ⟨b, o + 3, none⟩ (.int .u64 z4.a)).setCell ⟨b, o + 4, none⟩ (.int .u64 z4.b)).setCell ⟨b, o + 5, none⟩ (.int .u64 z4.c)).setCell ⟨b, o + 6, none⟩ (.int .u64 z4.d)) = w6 at *
  refine (Uint_st S6.out BX.out).mono ?_
  rintro e w7 ⟨rfl, hs, hc⟩
  rw [d5.out] at hs ⊢
  rw [Z5.out]
  have S7 := Lib.hid hs
  have K7 := Lib.hid (K6.out.chg hc (by simpa using hbp))
  have C7 : Hid (Chg w w7 [b, p]) := C6.out.trans (hc.more (by simp)) (fun x hx _ => hx)
  clear hs hc S6 K6 C6
  have c7 : w7.cell? ⟨b, o + 7, none⟩ = some (.int .u64 0) := K7.out.cell (i := 7) rfl HO.out
  have y7 := K7.out.free (o + 7)
  have cs : Chg w7 (w7.setCell ⟨b, o + 7, none⟩ (.int .u64 z5)) [b] := ((Chg.refl _ [b]).setCell (p := ⟨b, o + 7, none⟩) (.inl (by simp)) _)
  have K8 : Hid (RIn (w7.setCell ⟨b, o + 7, none⟩ (.int .u64 z5)) T b pre (mgRow ⟨z1, z2, z3, z4, z5, []⟩ none 0 0) post) := (RIn.st (i := 7) K7.out (by simp [mgRow]) (.int .u64 z5) HO.out)
  have S8 := Lib.hid (S7.out.chg2 cs (by simpa using Ne.symm hbp) (fun ho => K7.out.off ho TT.out))
  have C8 : Hid (Chg w (w7.setCell ⟨b, o + 7, none⟩ (.int .u64 z5)) [b, p]) := C7.out.trans (cs.more (by simp)) (fun x hx _ => hx)
  clear cs S7 C7 K7
  go_wp2_with fail
  clear c7 y7
  generalize (w7.setCell ⟨b, o + 7, none⟩ (.int .u64 z5)) = w8 at *
  refine (Blob_st S8.out BX.out).mono ?_
  rintro e w9 ⟨q9, k9, rfl, hr, hf, hs, hc⟩
  rw [d6.out] at hr hf hs ⊢
  rw [Z6.out] at hr hf hs ⊢
  have hbx := K8.out.lt
  have S9 := Lib.hid hs
  have K9 := Lib.hid (K8.out.chg hc (by simpa using hbp))
  have C9 : Hid (Chg w w9 [b, p]) := C8.out.trans (hc.more (by simp)) (fun x hx _ => hx)
  have R9 : Hid (Rd (w9.setCell ⟨b, o + 8, none⟩ (.slice q9 D6.length k9)) (.slice q9 D6.length k9) D6) := hr.setCell (a := ⟨b, o + 8, none⟩) (fun e => by have h9 : w8.heap.size ≤ b := hf _ e; omega) _
  have F9 : Hid (∀ g, (Value.slice q9 D6.length k9).ownBlock = some g → w.heap.size ≤ g) := fun g hg => Nat.le_trans C8.out.size (hf g hg)
  clear hs hc S8 C8 K8 hr hf hbx
  have c8 : w9.cell? ⟨b, o + 8, none⟩ = some (.slice none 0 0) := K9.out.cell (i := 8) rfl HO.out
  have y8 := K9.out.free (o + 8)
  have cs : Chg w9 (w9.setCell ⟨b, o + 8, none⟩ (.slice q9 D6.length k9)) [b] := ((Chg.refl _ [b]).setCell (p := ⟨b, o + 8, none⟩) (.inl (by simp)) _)
  have KZ : Hid (RIn (w9.setCell ⟨b, o + 8, none⟩ (.slice q9 D6.length k9)) T b pre (mgRow ⟨z1, z2, z3, z4, z5, D6⟩ q9 D6.length k9) post) := (RIn.st (i := 8) K9.out (by simp [mgRow]) (.slice q9 D6.length k9) HO.out)
  have SZ := Lib.hid (S9.out.chg2 cs (by simpa using Ne.symm hbp) (fun ho => K9.out.off ho TT.out))
  have CZ : Hid (Chg w (w9.setCell ⟨b, o + 8, none⟩ (.slice q9 D6.length k9)) [b, p]) := C9.out.trans (cs.more (by simp)) (fun x hx _ => hx)
  clear cs S9 C9 K9
  go_wp2_with fail
  go_end0
  have MD : (qM xs pos f).data = D6 := by rw [MM.out]
  rw [ME.out, MD, E6x.out]
  exact ⟨q9, k9, rfl, by rw [MM.out]; exact KZ.out, SZ.out, R9.out, F9.out, CZ.out⟩

set_option maxHeartbeats 8000000 in
theorem Txparse_in {w : World} {T : TypeId} {b p o pos : Nat} {v : Value} {xs : List Int} {f : Bool} {pre post : List Value} (hT : T ≠ 5) (hK : RIn w T b pre (txRow tg0 none 0 0) post) (ho : o = pre.length) (hS : RSt w p v xs pos f) (hx : Bytes xs) (hbp : b ≠ p) :
    Calls Try.prog 93 #[.pointer (some ⟨b, o, none⟩), .pointer (some ⟨p, 0, none⟩)] w fun e w' => ∃ q k, e = .returned (.tuple #[]) ∧ RIn w' T b pre (txRow (tM xs pos f) q (tM xs pos f).data.length k) post ∧ RSt w' p v xs (tE xs pos f) (t7 xs pos f) ∧ Rd w' (.slice q (tM xs pos f).data.length k) (tM xs pos f).data ∧ (∀ g, (Value.slice q (tM xs pos f).data.length k).ownBlock = some g → w.heap.size ≤ g) ∧ Chg w w' [b, p] := by
  have BX := Lib.hid hx
  have TT := Lib.hid hT
  have HO := Lib.hid ho
  have K0 := Lib.hid hK
  have S0 := Lib.hid hS
  have MM : Hid (tM xs pos f = ⟨uV (t1 xs pos f) xs (pos), uV (t2 xs pos f) xs (pos + 8), uV (t3 xs pos f) xs (pos + 8 + 8), uV (t4 xs pos f) xs (pos + 8 + 8 + 8), wV (t5 xs pos f) xs (pos + 8 + 8 + 8 + 8), uV (t6 xs pos f) xs (pos + 8 + 8 + 8 + 8 + 32), bD (t7 xs pos f) xs (pos + 8 + 8 + 8 + 8 + 32 + 8)⟩) := rfl
  have ME : Hid (tE xs pos f = pos + 8 + 8 + 8 + 8 + 32 + 8 + 8 + (tM xs pos f).data.length) := rfl
  obtain ⟨f1, e1⟩ : ∃ f', t1 xs pos f = f' := ⟨_, rfl⟩
  obtain ⟨f2, e2⟩ : ∃ f', t2 xs pos f = f' := ⟨_, rfl⟩
  obtain ⟨f3, e3⟩ : ∃ f', t3 xs pos f = f' := ⟨_, rfl⟩
  obtain ⟨f4, e4⟩ : ∃ f', t4 xs pos f = f' := ⟨_, rfl⟩
  obtain ⟨f5, e5⟩ : ∃ f', t5 xs pos f = f' := ⟨_, rfl⟩
  obtain ⟨f6, e6⟩ : ∃ f', t6 xs pos f = f' := ⟨_, rfl⟩
  obtain ⟨f7, e7⟩ : ∃ f', t7 xs pos f = f' := ⟨_, rfl⟩
  rw [e1, e2, e3, e4, e5, e6, e7] at MM
  have d1 := Lib.hid (show fC f xs (pos) 3 = f1 from e1)
  have d2 := Lib.hid (show fU f1 xs (pos + 8) 8 = f2 by rw [← e1]; exact e2)
  have d3 := Lib.hid (show fU f2 xs (pos + 8 + 8) 8 = f3 by rw [← e2]; exact e3)
  have d4 := Lib.hid (show fU f3 xs (pos + 8 + 8 + 8) 8 = f4 by rw [← e3]; exact e4)
  have d5 := Lib.hid (show fU f4 xs (pos + 8 + 8 + 8 + 8) 32 = f5 by rw [← e4]; exact e5)
  have d6 := Lib.hid (show fU f5 xs (pos + 8 + 8 + 8 + 8 + 32) 8 = f6 by rw [← e5]; exact e6)
  have d7 := Lib.hid (show fB f6 xs (pos + 8 + 8 + 8 + 8 + 32 + 8) = f7 by rw [← e6]; exact e7)
  have E7x := Lib.hid e7
  obtain ⟨z1, h1⟩ : ∃ z, uV f1 xs (pos) = z := ⟨_, rfl⟩
  obtain ⟨z2, h2⟩ : ∃ z, uV f2 xs (pos + 8) = z := ⟨_, rfl⟩
  obtain ⟨z3, h3⟩ : ∃ z, uV f3 xs (pos + 8 + 8) = z := ⟨_, rfl⟩
  obtain ⟨z4, h4⟩ : ∃ z, uV f4 xs (pos + 8 + 8 + 8) = z := ⟨_, rfl⟩
  obtain ⟨z5, h5⟩ : ∃ z, wV f5 xs (pos + 8 + 8 + 8 + 8) = z := ⟨_, rfl⟩
  obtain ⟨z6, h6⟩ : ∃ z, uV f6 xs (pos + 8 + 8 + 8 + 8 + 32) = z := ⟨_, rfl⟩
  obtain ⟨D7, h7⟩ : ∃ z, bD f7 xs (pos + 8 + 8 + 8 + 8 + 32 + 8) = z := ⟨_, rfl⟩
  rw [h1, h2, h3, h4, h5, h6, h7] at MM
  have Z1 := Lib.hid h1
  have Z2 := Lib.hid h2
  have Z3 := Lib.hid h3
  have Z4 := Lib.hid h4
  have Z5 := Lib.hid h5
  have Z6 := Lib.hid h6
  have Z7 := Lib.hid h7
  clear hT hK hS hx ho e1 e2 e3 e4 e5 e6 e7 h1 h2 h3 h4 h5 h6 h7
  go_enter Try.func93, Try.ntmps93
  go_wp2_with fail
  refine (Count_det S0.out BX.out (most := 3) (by omega)).mono ?_
  rintro e w1 ⟨rfl, hs, hc⟩
  rw [d1.out] at hs ⊢
  rw [Z1.out]
  have S1 := Lib.hid hs
  have K1 := Lib.hid (K0.out.chg hc (by simpa using hbp))
  have C1 : Hid (Chg w w1 [b, p]) := (hc.more (by simp))
  clear hs hc S0 K0
  have c0 : w1.cell? ⟨b, o, none⟩ = some (.int .i64 0) := K1.out.cell (i := 0) rfl HO.out
  have y0 := K1.out.free (o)
  have cs : Chg w1 (w1.setCell ⟨b, o, none⟩ (.int .i64 z1)) [b] := ((Chg.refl _ [b]).setCell (p := ⟨b, o, none⟩) (.inl (by simp)) _)
  have K2 : Hid (RIn (w1.setCell ⟨b, o, none⟩ (.int .i64 z1)) T b pre (txRow ⟨z1, 0, 0, 0, ⟨0, 0, 0, 0⟩, 0, []⟩ none 0 0) post) := (RIn.st (i := 0) K1.out (by simp [txRow]) (.int .i64 z1) HO.out)
  have S2 := Lib.hid (S1.out.chg2 cs (by simpa using Ne.symm hbp) (fun ho => K1.out.off ho TT.out))
  have C2 : Hid (Chg w (w1.setCell ⟨b, o, none⟩ (.int .i64 z1)) [b, p]) := C1.out.trans (cs.more (by simp)) (fun x hx _ => hx)
  clear cs S1 C1 K1
  go_wp2_with fail
  clear c0 y0
  generalize (w1.setCell ⟨b, o, none⟩ (.int .i64 z1)) = w2 at *
  refine (Uint_st S2.out BX.out).mono ?_
  rintro e w3 ⟨rfl, hs, hc⟩
  rw [d2.out] at hs ⊢
  rw [Z2.out]
  have S3 := Lib.hid hs
  have K3 := Lib.hid (K2.out.chg hc (by simpa using hbp))
  have C3 : Hid (Chg w w3 [b, p]) := C2.out.trans (hc.more (by simp)) (fun x hx _ => hx)
  clear hs hc S2 K2 C2
  go_wp2_with fail
  refine (Uint_st S3.out BX.out).mono ?_
  rintro e w4 ⟨rfl, hs, hc⟩
  rw [d3.out] at hs ⊢
  rw [Z3.out]
  have S4 := Lib.hid hs
  have K4 := Lib.hid (K3.out.chg hc (by simpa using hbp))
  have C4 : Hid (Chg w w4 [b, p]) := C3.out.trans (hc.more (by simp)) (fun x hx _ => hx)
  clear hs hc S3 K3 C3
  go_wp2_with fail
  refine (Uint_st S4.out BX.out).mono ?_
  rintro e w5 ⟨rfl, hs, hc⟩
  rw [d4.out] at hs ⊢
  rw [Z4.out]
  have S5 := Lib.hid hs
  have K5 := Lib.hid (K4.out.chg hc (by simpa using hbp))
  have C5 : Hid (Chg w w5 [b, p]) := C4.out.trans (hc.more (by simp)) (fun x hx _ => hx)
  clear hs hc S4 K4 C4
  have c1 : w5.cell? ⟨b, o + 1, none⟩ = some (.int .u64 0) := K5.out.cell (i := 1) rfl HO.out
  have y1 := K5.out.free (o + 1)
  have c2 : w5.cell? ⟨b, o + 2, none⟩ = some (.int .u64 0) := K5.out.cell (i := 2) rfl HO.out
  have y2 := K5.out.free (o + 2)
  have c3 : w5.cell? ⟨b, o + 3, none⟩ = some (.int .u64 0) := K5.out.cell (i := 3) rfl HO.out
  have y3 := K5.out.free (o + 3)
  have cs : Chg w5 (((w5.setCell ⟨b, o + 1, none⟩ (.int .u64 z2)).setCell ⟨b, o + 2, none⟩ (.int .u64 z3)).setCell ⟨b, o + 3, none⟩ (.int .u64 z4)) [b] := ((((Chg.refl _ [b]).setCell (p := ⟨b, o + 1, none⟩) (.inl (by simp)) _).setCell (p := ⟨b, o + 2, none⟩) (.inl (by simp)) _).setCell (p := ⟨b, o + 3, none⟩) (.inl (by simp)) _)
  have K6 : Hid (RIn (((w5.setCell ⟨b, o + 1, none⟩ (.int .u64 z2)).setCell ⟨b, o + 2, none⟩ (.int .u64 z3)).setCell ⟨b, o + 3, none⟩ (.int .u64 z4)) T b pre (txRow ⟨z1, z2, z3, z4, ⟨0, 0, 0, 0⟩, 0, []⟩ none 0 0) post) := (RIn.st (i := 3) (RIn.st (i := 2) (RIn.st (i := 1) K5.out (by simp [txRow]) (.int .u64 z2) HO.out) (by simp [txRow]) (.int .u64 z3) HO.out) (by simp [txRow]) (.int .u64 z4) HO.out)
  have S6 := Lib.hid (S5.out.chg2 cs (by simpa using Ne.symm hbp) (fun ho => K5.out.off ho TT.out))
  have C6 : Hid (Chg w (((w5.setCell ⟨b, o + 1, none⟩ (.int .u64 z2)).setCell ⟨b, o + 2, none⟩ (.int .u64 z3)).setCell ⟨b, o + 3, none⟩ (.int .u64 z4)) [b, p]) := C5.out.trans (cs.more (by simp)) (fun x hx _ => hx)
  clear cs S5 C5 K5
  go_wp2_with fail
  clear c1 y1 c2 y2 c3 y3
  generalize (((w5.setCell ⟨b, o + 1, none⟩ (.int .u64 z2)).setCell ⟨b, o + 2, none⟩ (.int .u64 z3)).setCell ⟨b, o + 3, none⟩ (.int .u64 z4)) = w6 at *
  refine (Wide_st S6.out BX.out).mono ?_
  rintro e w7 ⟨rfl, hs, hc⟩
  rw [d5.out] at hs ⊢
  rw [Z5.out]
  unfold w4v
  have S7 := Lib.hid hs
  have K7 := Lib.hid (K6.out.chg hc (by simpa using hbp))
  have C7 : Hid (Chg w w7 [b, p]) := C6.out.trans (hc.more (by simp)) (fun x hx _ => hx)
  clear hs hc S6 K6 C6
  have c4 : w7.cell? ⟨b, o + 4, none⟩ = some (.int .u64 0) := K7.out.cell (i := 4) rfl HO.out
  have y4 := K7.out.free (o + 4)
  have c5 : w7.cell? ⟨b, o + 5, none⟩ = some (.int .u64 0) := K7.out.cell (i := 5) rfl HO.out
  have y5 := K7.out.free (o + 5)
  have c6 : w7.cell? ⟨b, o + 6, none⟩ = some (.int .u64 0) := K7.out.cell (i := 6) rfl HO.out
  have y6 := K7.out.free (o + 6)
  have c7 : w7.cell? ⟨b, o + 7, none⟩ = some (.int .u64 0) := K7.out.cell (i := 7) rfl HO.out
  have y7 := K7.out.free (o + 7)
  have cs : Chg w7 ((((w7.setCell ⟨b, o + 4, none⟩ (.int .u64 z5.a)).setCell ⟨b, o + 5, none⟩ (.int .u64 z5.b)).setCell ⟨b, o + 6, none⟩ (.int .u64 z5.c)).setCell ⟨b, o + 7, none⟩ (.int .u64 z5.d)) [b] := (((((Chg.refl _ [b]).setCell (p := ⟨b, o + 4, none⟩) (.inl (by simp)) _).setCell (p := ⟨b, o + 5, none⟩) (.inl (by simp)) _).setCell (p := ⟨b, o + 6, none⟩) (.inl (by simp)) _).setCell (p := ⟨b, o + 7, none⟩) (.inl (by simp)) _)
  have K8 : Hid (RIn ((((w7.setCell ⟨b, o + 4, none⟩ (.int .u64 z5.a)).setCell ⟨b, o + 5, none⟩ (.int .u64 z5.b)).setCell ⟨b, o + 6, none⟩ (.int .u64 z5.c)).setCell ⟨b, o + 7, none⟩ (.int .u64 z5.d)) T b pre (txRow ⟨z1, z2, z3, z4, z5, 0, []⟩ none 0 0) post) := (RIn.st (i := 7) (RIn.st (i := 6) (RIn.st (i := 5) (RIn.st (i := 4) K7.out (by simp [txRow]) (.int .u64 z5.a) HO.out) (by simp [txRow]) (.int .u64 z5.b) HO.out) (by simp [txRow]) (.int .u64 z5.c) HO.out) (by simp [txRow]) (.int .u64 z5.d) HO.out)
  have S8 := Lib.hid (S7.out.chg2 cs (by simpa using Ne.symm hbp) (fun ho => K7.out.off ho TT.out))
  have C8 : Hid (Chg w ((((w7.setCell ⟨b, o + 4, none⟩ (.int .u64 z5.a)).setCell ⟨b, o + 5, none⟩ (.int .u64 z5.b)).setCell ⟨b, o + 6, none⟩ (.int .u64 z5.c)).setCell ⟨b, o + 7, none⟩ (.int .u64 z5.d)) [b, p]) := C7.out.trans (cs.more (by simp)) (fun x hx _ => hx)
  clear cs S7 C7 K7
  go_wp2_with fail
  clear c4 y4 c5 y5 c6 y6 c7 y7
  generalize ((((w7.setCell ⟨b, o + 4, none⟩ (.int .u64 z5.a)).setCell ⟨b, o + 5, none⟩ (.int .u64 z5.b)).setCell ⟨b, o + 6, none⟩ (.int .u64 z5.c)).setCell ⟨b, o + 7, none⟩ (.int .u64 z5.d)) = w8 at *
  refine (Uint_st S8.out BX.out).mono ?_
  rintro e w9 ⟨rfl, hs, hc⟩
  rw [d6.out] at hs ⊢
  rw [Z6.out]
  have S9 := Lib.hid hs
  have K9 := Lib.hid (K8.out.chg hc (by simpa using hbp))
  have C9 : Hid (Chg w w9 [b, p]) := C8.out.trans (hc.more (by simp)) (fun x hx _ => hx)
  clear hs hc S8 K8 C8
  have c8 : w9.cell? ⟨b, o + 8, none⟩ = some (.int .u64 0) := K9.out.cell (i := 8) rfl HO.out
  have y8 := K9.out.free (o + 8)
  have cs : Chg w9 (w9.setCell ⟨b, o + 8, none⟩ (.int .u64 z6)) [b] := ((Chg.refl _ [b]).setCell (p := ⟨b, o + 8, none⟩) (.inl (by simp)) _)
  have K10 : Hid (RIn (w9.setCell ⟨b, o + 8, none⟩ (.int .u64 z6)) T b pre (txRow ⟨z1, z2, z3, z4, z5, z6, []⟩ none 0 0) post) := (RIn.st (i := 8) K9.out (by simp [txRow]) (.int .u64 z6) HO.out)
  have S10 := Lib.hid (S9.out.chg2 cs (by simpa using Ne.symm hbp) (fun ho => K9.out.off ho TT.out))
  have C10 : Hid (Chg w (w9.setCell ⟨b, o + 8, none⟩ (.int .u64 z6)) [b, p]) := C9.out.trans (cs.more (by simp)) (fun x hx _ => hx)
  clear cs S9 C9 K9
  go_wp2_with fail
  clear c8 y8
  generalize (w9.setCell ⟨b, o + 8, none⟩ (.int .u64 z6)) = w10 at *
  refine (Blob_st S10.out BX.out).mono ?_
  rintro e w11 ⟨q9, k9, rfl, hr, hf, hs, hc⟩
  rw [d7.out] at hr hf hs ⊢
  rw [Z7.out] at hr hf hs ⊢
  have hbx := K10.out.lt
  have S11 := Lib.hid hs
  have K11 := Lib.hid (K10.out.chg hc (by simpa using hbp))
  have C11 : Hid (Chg w w11 [b, p]) := C10.out.trans (hc.more (by simp)) (fun x hx _ => hx)
  have R11 : Hid (Rd (w11.setCell ⟨b, o + 9, none⟩ (.slice q9 D7.length k9)) (.slice q9 D7.length k9) D7) := hr.setCell (a := ⟨b, o + 9, none⟩) (fun e => by have h9 : w10.heap.size ≤ b := hf _ e; omega) _
  have F11 : Hid (∀ g, (Value.slice q9 D7.length k9).ownBlock = some g → w.heap.size ≤ g) := fun g hg => Nat.le_trans C10.out.size (hf g hg)
  clear hs hc S10 C10 K10 hr hf hbx
  have c9 : w11.cell? ⟨b, o + 9, none⟩ = some (.slice none 0 0) := K11.out.cell (i := 9) rfl HO.out
  have y9 := K11.out.free (o + 9)
  have cs : Chg w11 (w11.setCell ⟨b, o + 9, none⟩ (.slice q9 D7.length k9)) [b] := ((Chg.refl _ [b]).setCell (p := ⟨b, o + 9, none⟩) (.inl (by simp)) _)
  have KZ : Hid (RIn (w11.setCell ⟨b, o + 9, none⟩ (.slice q9 D7.length k9)) T b pre (txRow ⟨z1, z2, z3, z4, z5, z6, D7⟩ q9 D7.length k9) post) := (RIn.st (i := 9) K11.out (by simp [txRow]) (.slice q9 D7.length k9) HO.out)
  have SZ := Lib.hid (S11.out.chg2 cs (by simpa using Ne.symm hbp) (fun ho => K11.out.off ho TT.out))
  have CZ : Hid (Chg w (w11.setCell ⟨b, o + 9, none⟩ (.slice q9 D7.length k9)) [b, p]) := C11.out.trans (cs.more (by simp)) (fun x hx _ => hx)
  clear cs S11 C11 K11
  go_wp2_with fail
  go_end0
  have MD : (tM xs pos f).data = D7 := by rw [MM.out]
  rw [ME.out, MD, E7x.out]
  exact ⟨q9, k9, rfl, by rw [MM.out]; exact KZ.out, SZ.out, R11.out, F11.out, CZ.out⟩
end Go.Proofs.Ytonjkhhihiigfaa
namespace Go.Proofs.Ytonjkhhihiigfaa
set_option maxRecDepth 100000
open Go.RowKit

structure Inp where
  dep : Bool
  mint : W4
  m : Mg
  t : Tg
structure Inp.ok (x : Inp) : Prop where
  mint : D4 x.mint.a x.mint.b x.mint.c x.mint.d
  m : x.m.ok
  t : x.t.ok
def inp0 : Inp := ⟨false, ⟨0, 0, 0, 0⟩, mg0, tg0⟩
theorem inp0_ok : inp0.ok := ⟨⟨dg0, dg0, dg0, dg0⟩, mg0_ok, tg0_ok⟩
def inHd (x : Inp) : List Value := [.bool x.dep, .int .u64 x.mint.a, .int .u64 x.mint.b, .int .u64 x.mint.c, .int .u64 x.mint.d]
def inRow (x : Inp) (qm : Option Addr) (nm km : Nat) (qt : Option Addr) (nt kt : Nat) : List Value := inHd x ++ (mgRow x.m qm nm km ++ txRow x.t qt nt kt)
@[go_sem] theorem inRow_len (x : Inp) (qm : Option Addr) (nm km : Nat) (qt : Option Addr) (nt kt : Nat) : (inRow x qm nm km qt nt kt).length = 24 := rfl
theorem inRow_one (x : Inp) (qm : Option Addr) (nm km : Nat) (qt : Option Addr) (nt kt : Nat) : ∀ u ∈ (inRow x qm nm km qt nt kt), u.oneCell' = true := by
  intro u hu
  simp only [inRow, inHd, List.mem_append, List.mem_cons, List.not_mem_nil, or_false] at hu
  rcases hu with (rfl | rfl | rfl | rfl | rfl) | h | h
  · rfl
  · rfl
  · rfl
  · rfl
  · rfl
  · exact mgRow_one _ _ _ _ u h
  · exact txRow_one _ _ _ _ u h
/-- The block b holds an input. -/
def InAt (w : World) (b : Nat) (T : TypeId) (x : Inp) (qm : Option Addr) (nm km : Nat) (qt : Option Addr) (nt kt : Nat) : Prop := w.heap[b]? = some (.cells (inRow x qm nm km qt nt kt).toArray T (0, 0))
section
variable {w w' : World} {b : Nat} {T : TypeId} {x : Inp} {qm qt : Option Addr} {nm km nt kt : Nat}
theorem InAt.lt (h : InAt w b T x qm nm km qt nt kt) : b < w.heap.size := (Array.getElem?_eq_some_iff.1 h).1
theorem InAt.new (w : World) (T : TypeId) (x : Inp) (qm : Option Addr) (nm km : Nat) (qt : Option Addr) (nt kt : Nat) : InAt (w.alloc (.cells (inRow x qm nm km qt nt kt).toArray T)) w.heap.size T x qm nm km qt nt kt := heap_alloc_new w _
theorem InAt.on (h : InAt w b T x qm nm km qt nt kt) (hb : Below w.heap.size w w') : InAt w' b T x qm nm km qt nt kt := by
  unfold InAt at h ⊢
  rw [hb.block _ (Array.getElem?_eq_some_iff.1 h).1]; exact h
theorem InAt.chg {K : List Nat} (h : InAt w b T x qm nm km qt nt kt) (hc : Chg w w' K) (hb : b ∉ K) : InAt w' b T x qm nm km qt nt kt := by
  unfold InAt at h ⊢
  rw [hc.block _ (Array.getElem?_eq_some_iff.1 h).1 hb]; exact h
theorem InAt.row (h : InAt w b T x qm nm km qt nt kt) : rowOf w b 0 24 = (inRow x qm nm km qt nt kt) := by
  rw [rowOf_block h]; simp [inRow, inHd, mgRow, txRow]
theorem InAt.rowm (h : InAt w b T x qm nm km qt nt kt) : rowOf w b 5 9 = mgRow x.m qm nm km := by
  rw [rowOf_block h]; simp [inRow, inHd, mgRow, txRow]
theorem InAt.rowt (h : InAt w b T x qm nm km qt nt kt) : rowOf w b 14 10 = txRow x.t qt nt kt := by
  rw [rowOf_block h]; simp [inRow, inHd, mgRow, txRow]
theorem InAt.there (h : InAt w b T x qm nm km qt nt kt) : w.there b 0 24 := fun j hj => by
  refine ⟨?_, Joins.unfrozen_of_block h _⟩
  rw [cell_of_row _ _ _ _ _ _ h]
  simp only [List.getElem?_toArray]
  rw [List.getElem?_eq_getElem (by rw [inRow_len]; omega)]
  rfl
theorem InAt.frees (h : InAt w b T x qm nm km qt nt kt) (i : Nat) : w.frozen? ⟨b, i, none⟩ = false := Joins.unfrozen_of_block h i
theorem InAt.put {x' : Inp} {qm' qt' : Option Addr} {nm' km' nt' kt' : Nat} (h : InAt w b T x' qm' nm' km' qt' nt' kt') (x : Inp) (qm : Option Addr) (nm km : Nat) (qt : Option Addr) (nt kt : Nat) : InAt (w.setCells b 0 (inRow x qm nm km qt nt kt)) b T x qm nm km qt nt kt := by
  unfold InAt at h ⊢
  have := setCells_block (b := b) (t := T) (fr := (0, 0)) (inRow x qm nm km qt nt kt) (o := 0) (w := w) (pre := []) (mid := inRow x' qm' nm' km' qt' nt' kt') (post := []) (by simpa using h) rfl rfl
  simpa using this
theorem InAt.cells (h : InAt w b T x qm nm km qt nt kt) : w.cell? ⟨b, 0, none⟩ = some (.bool x.dep) ∧ w.cell? ⟨b, 1, none⟩ = some (.int .u64 x.mint.a) ∧ w.cell? ⟨b, 2, none⟩ = some (.int .u64 x.mint.b) ∧ w.cell? ⟨b, 3, none⟩ = some (.int .u64 x.mint.c) ∧ w.cell? ⟨b, 4, none⟩ = some (.int .u64 x.mint.d) :=
  ⟨(Joins.cell_of_block h 0).trans rfl, (Joins.cell_of_block h 1).trans rfl, (Joins.cell_of_block h 2).trans rfl, (Joins.cell_of_block h 3).trans rfl, (Joins.cell_of_block h 4).trans rfl⟩
end
@[go_sem ↓] theorem load24 (a : Addr) : loadCellsFrom a 0 24 #[] = rowLoad a 24 := rfl
@[go_sem] theorem run_storeCells_in {P : Program} (w : World) (b : Nat) (x : Inp) (qm : Option Addr) (nm km : Nat) (qt : Option Addr) (nt kt : Nat) (hw : w.there b 0 24) : (storeCells ⟨b, 0, none⟩ (inRow x qm nm km qt nt kt) 0).run P w = .ok () (w.setCells b 0 (inRow x qm nm km qt nt kt)) := by
  have := run_storeCells_cells (P := P) b 0 (inRow x qm nm km qt nt kt) 0 w (fun j hj => by rw [inRow_len] at hj; simpa using (hw j hj).1) (fun j hj => by rw [inRow_len] at hj; simpa using (hw j hj).2) (inRow_one x qm nm km qt nt kt)
  simpa using this
@[go_sem ↓] theorem Try.zero_inp (w : World) : (zeroValue 56).run Try.prog w = .ok (.agg (inRow inp0 none 0 0 none 0 0).toArray) w := by kernel_rfl
@[go_sem ↓] theorem Try.build_inp (ps : Array (Nat × Value)) : Instr.build 56 ps = rowBuild 56 ps := rfl
@[go_sem] theorem Try.run_in0p (w : World) : (rowBuild 56 #[]).run Try.prog w = .ok (.agg (inRow inp0 none 0 0 none 0 0).toArray) w := by unfold rowBuild; kernel_rfl
theorem Try.run_inp (w : World) (x : Inp) (qm : Option Addr) (nm km : Nat) (qt : Option Addr) (nt kt : Nat) : (rowBuild 56 #[(0, .bool x.dep), (1, .agg #[.int .u64 x.mint.a, .int .u64 x.mint.b, .int .u64 x.mint.c, .int .u64 x.mint.d]), (2, .agg (mgRow x.m qm nm km).toArray), (3, .agg (txRow x.t qt nt kt).toArray)]).run Try.prog w = .ok (.agg (inRow x qm nm km qt nt kt).toArray) w := by unfold rowBuild; kernel_rfl
@[go_sem ↓] theorem Try.zero_inr (w : World) : (zeroValue 86).run Try.prog w = .ok (.agg (inRow inp0 none 0 0 none 0 0).toArray) w := by kernel_rfl
@[go_sem ↓] theorem Try.build_inr (ps : Array (Nat × Value)) : Instr.build 86 ps = rowBuild 86 ps := rfl
@[go_sem] theorem Try.run_in0r (w : World) : (rowBuild 86 #[]).run Try.prog w = .ok (.agg (inRow inp0 none 0 0 none 0 0).toArray) w := by unfold rowBuild; kernel_rfl
theorem Try.run_inr (w : World) (x : Inp) (qm : Option Addr) (nm km : Nat) (qt : Option Addr) (nt kt : Nat) : (rowBuild 86 #[(0, .bool x.dep), (1, .agg #[.int .u64 x.mint.a, .int .u64 x.mint.b, .int .u64 x.mint.c, .int .u64 x.mint.d]), (2, .agg (mgRow x.m qm nm km).toArray), (3, .agg (txRow x.t qt nt kt).toArray)]).run Try.prog w = .ok (.agg (inRow x qm nm km qt nt kt).toArray) w := by unfold rowBuild; kernel_rfl

/-- Whether a Tx, a message is all zero. -/
def zT (t : Tg) (n : Nat) : Bool := ((((((t.kd == 0) && (t.fr == 0)) && (t.no == 0)) && (t.to == 0)) && zW t.val) && (t.gas == 0)) && ((n : Int) == 0)
def zM (m : Mg) (n : Nat) : Bool := (((((m.no == 0) && (m.se == 0)) && (m.ta == 0)) && zW m.val) && (m.gas == 0)) && ((n : Int) == 0)



/-- Which inputs may be. -/
def okI (x : Inp) : Bool := if x.dep = true then okM x.m && zT x.t x.t.data.length else (zW x.mint && zM x.m x.m.data.length) && okT x.t x.t.data.length
end Go.Proofs.Ytonjkhhihiigfaa
