/-
  basculeref02.power.
-/
import Derived.Test.YtlmpmnngheifkaaDoorRoots
import Derived.Test.YtlmpmnngheifkaaDoorReg
namespace Go.Proofs.YtlmpmnngheifkaaDoor
open Go.RowKit
set_option maxRecDepth 100000

structure PwS (w wr : World) (o : List Nat) : Prop where
  below : Below w.heap.size w wr
  res : SixAt wr w.heap.size zero6
  out : SixAt wr (w.heap.size + 1) o
theorem PwS.start (w : World) : PwS w (((w.alloc (.cells (vc zero6).toArray 76)).alloc (.cells (vc zero6).toArray 76)).setCells (w.heap.size + 1) 0 (vc (powM 0 0))) (powM 0 0) := by
  have h := SixAt.new (w.alloc (.cells (vc zero6).toArray 76)) zero6
  rw [World.size_alloc] at h
  refine ⟨below_setCells' _ (by omega) _ _ (((Below.refl _ _).alloc (Nat.le_refl _) _).alloc (by simp) _), ?_, h.put zero6_len rfl⟩
  unfold SixAt
  rw [setCells_other (by omega)]
  exact (SixAt.new w zero6).alloc _

def ak (y0 y1 k : Nat) : Nat := if k = 0 then y0 else y1
def Gk (y0 y1 : Nat) (o : List Nat) : Nat → List Nat
  | 0 => zero6
  | k + 1 => (inner (ak y0 y1 k) o k (Gk y0 y1 o k) (6 - k)).1
theorem Gk_len (y0 y1 : Nat) (o : List Nat) : ∀ k, (Gk y0 y1 o k).length = 6
  | 0 => rfl
  | k + 1 => by unfold Gk; rw [inner_len]; exact Gk_len y0 y1 o k
structure InS (w w0 wr : World) (o : List Nat) (y0 y1 : Nat) (G : List Nat) : Prop where
  pw : PwS w wr o
  a : wr.heap[w0.heap.size]? = some (.cells #[.int .u64 (y0 : Int), .int .u64 (y1 : Int)] 78 (0, 0))
  g : SixAt wr (w0.heap.size + 1) G
  lt : w.heap.size + 1 < w0.heap.size
theorem PwS.lay {w w0 : World} {o : List Nat} (h : PwS w w0 o) (y0 y1 : Nat) : InS w w0 ((w0.alloc (.cells #[.int .u64 (y0 : Int), .int .u64 (y1 : Int)] 78)).alloc (.cells (vc zero6).toArray 76)) o y0 y1 zero6 := by
  have l := h.out.lt
  have s := h.below.size
  have g := SixAt.new (w0.alloc (.cells #[.int .u64 (y0 : Int), .int .u64 (y1 : Int)] 78)) zero6
  rw [World.size_alloc] at g
  refine ⟨⟨(h.below.alloc s _).alloc (by simp; omega) _, (h.res.alloc _).alloc _, (h.out.alloc _).alloc _⟩, ?_, g, l⟩
  rw [Below.heap_alloc _ _ _ (by simp)]
  exact heap_alloc_new w0 _
theorem InS.put {w w0 wr : World} {o G : List Nat} {y0 y1 : Nat} (h : InS w w0 wr o y0 y1 G) (j v : Nat) : InS w w0 (wr.setCell ⟨w0.heap.size + 1, j, none⟩ (.int .u64 (v : Int))) o y0 y1 (G.set j v) := by
  have l := h.lt
  refine ⟨⟨h.pw.below.setCell (p := ⟨w0.heap.size + 1, j, none⟩) (by show w.heap.size ≤ w0.heap.size + 1; omega) _, h.pw.res.other (a := ⟨w0.heap.size + 1, j, none⟩) (by show w.heap.size ≠ w0.heap.size + 1; omega) _, h.pw.out.other (a := ⟨w0.heap.size + 1, j, none⟩) (by show w.heap.size + 1 ≠ w0.heap.size + 1; omega) _⟩, ?_, h.g.store j v, l⟩
  rw [Below.heap_setCell _ _ _ _ (by show w0.heap.size ≠ w0.heap.size + 1; omega)]
  exact h.a
theorem mst_wrap (c g a o : Nat) : (((c + g + a * o) % 18446744073709551616 : Nat) : Int) = IntKind.u64.wrap (IntKind.u64.wrap ((c : Int) + (g : Int)) + IntKind.u64.wrap ((a : Int) * (o : Int))) := by
  rw [IntKind.wrap_u64, IntKind.wrap_u64, IntKind.wrap_u64]
  have e : ((a * o : Nat) : Int) = (a : Int) * (o : Int) := Int.natCast_mul a o
  rw [← e]
  generalize a * o = p
  omega
theorem InS.done {w w0 wr : World} {o G : List Nat} {y0 y1 : Nat} (h : InS w w0 wr o y0 y1 G) (ho : o.length = 6) (hG : G.length = 6) : PwS w (wr.setCells (w.heap.size + 1) 0 (vc G)) G := by
  refine ⟨below_setCells' _ (by omega) _ _ h.pw.below, ?_, h.pw.out.put ho hG⟩
  unfold SixAt
  rw [setCells_other (by omega)]
  exact h.pw.res
theorem InS.acell {w w0 wr : World} {o G : List Nat} {y0 y1 : Nat} (h : InS w w0 wr o y0 y1 G) {k : Nat} (hk : k < 2) : wr.cell? ⟨w0.heap.size, k, none⟩ = some (.int .u64 ((ak y0 y1 k : Nat) : Int)) := by
  rw [Joins.cell_of_block h.a]
  rcases (by omega : k = 0 ∨ k = 1) with rfl | rfl <;> rfl
theorem InS.drew {w w0 wr : World} {o G : List Nat} {y0 y1 : Nat} (h : InS w w0 wr o y0 y1 G) : InS w w0 wr.drew o y0 y1 G := ⟨⟨h.pw.below.drew, h.pw.res, h.pw.out⟩, h.a, h.g, h.lt⟩

set_option maxHeartbeats 4000000 in
theorem power_any (w : World) {x n : Nat} (hx : x < 18446744073709551616) (hn : n ≤ 3) :
    Calls Tryd.prog 43 #[.int .u64 (x : Int), .int .i64 (n : Int)] w fun e w' => e = .returned (.agg (vc (powM x n)).toArray) ∧ Below w.heap.size w w' := by
  have H0 := Lib.hid (PwS.start w)
  have hth0 := (by have h := SixAt.new (w.alloc (.cells (vc zero6).toArray 76)) zero6; rw [World.size_alloc] at h; exact h.there zero6_len : ((w.alloc (.cells (vc zero6).toArray 76)).alloc (.cells (vc zero6).toArray 76)).there (w.heap.size + 1) 0 6)
  have hl1 := powM_len 0 0
  obtain ⟨y0, hy0⟩ : ∃ y, x % 4294967296 = y := ⟨_, rfl⟩
  obtain ⟨y1, hy1⟩ : ∃ y, x / 4294967296 = y := ⟨_, rfl⟩
  have tm : Int.tmod (x : Int) 4294967296 = (y0 : Int) := by rw [Int.tmod_eq_emod_of_nonneg (by omega)]; omega
  have td : Int.tdiv (x : Int) 4294967296 = (y1 : Int) := by rw [Int.tdiv_eq_ediv_of_nonneg (by omega)]; omega
  have em : (x : Int) % 4294967296 = (y0 : Int) := by omega
  have ed : (x : Int) / 4294967296 = (y1 : Int) := by omega
  have w0 : IntKind.u64.wrap (y0 : Int) = y0 := by rw [IntKind.wrap_u64]; omega
  have w1 : IntKind.u64.wrap (y1 : Int) = y1 := by rw [IntKind.wrap_u64]; omega
  have HY0 := Lib.hid hy0
  have HY1 := Lib.hid hy1
  clear hy0 hy1 hx
  go_enter Tryd.func43, Tryd.ntmps43
  go_wp2_with fail
  generalize ((w.alloc (.cells (vc zero6).toArray 76)).alloc (.cells (vc zero6).toArray 76)).setCells (w.heap.size + 1) 0 (vc (powM 0 0)) = W0 at *
  clear hth0 hl1
  go_loopw [6] (fun iv wr => ∃ i : Nat, iv = .int .i64 i ∧ i ≤ n ∧ Hid (PwS w wr (powM x i))) (fun iv _ => n - (intOf iv).toNat)
  case atStart => exact ⟨0, rfl, by omega, H0⟩
  case round =>
    clear H0
    obtain ⟨i, rfl, hi, hP⟩ := hrel
    by_cases hlt : i < n
    · have i2 : (i : Int) < (n : Int) := by omega
      have hol := powM_len x i
      obtain ⟨o, ho⟩ : ∃ o, powM x i = o := ⟨_, rfl⟩
      rw [ho] at hP hol
      have HO := Lib.hid ho
      clear ho
      have HI := Lib.hid (hP.out.lay y0 y1)
      obtain ⟨w0, hw0⟩ : ∃ w0 : World, w0 = wr := ⟨_, rfl⟩
      subst hw0
      clear hP
      go_wp2_with fail
      generalize (w0.alloc (.cells #[.int .u64 (y0 : Int), .int .u64 (y1 : Int)] 78)).alloc (.cells (vc zero6).toArray 76) = w1 at *
      go_loopw [9] (fun kv wr => ∃ k : Nat, kv = .int .i64 k ∧ k ≤ 2 ∧ Hid (InS w w0 wr o y0 y1 (Gk y0 y1 o k))) (fun kv _ => 2 - (intOf kv).toNat)
      case atStart => exact ⟨0, rfl, by omega, HI⟩
      case round =>
        clear HI
        obtain ⟨k, rfl, hk, hI⟩ := hrel
        by_cases hk2 : k < 2
        · have k2 : (k : Int) < 2 := by omega
          have hGl := Gk_len y0 y1 o k
          have HG1 : Hid (Gk y0 y1 o (k + 1) = (inner (ak y0 y1 k) o k (Gk y0 y1 o k) (6 - k)).1) := rfl
          obtain ⟨G, hG⟩ : ∃ G, Gk y0 y1 o k = G := ⟨_, rfl⟩
          rw [hG] at hI hGl HG1
          obtain ⟨av, hav⟩ : ∃ a, ak y0 y1 k = a := ⟨_, rfl⟩
          rw [hav] at HG1
          have HAV := Lib.hid hav
          clear hG hav
          go_wp2_with fail
          go_loopw [10, 11] (fun cv mv wr => ∃ m : Nat, mv = .int .i64 m ∧ k + m ≤ 6 ∧ cv = .int .u64 (((inner av o k G m).2 : Nat) : Int) ∧ Hid (InS w w0 wr o y0 y1 (inner av o k G m).1)) (fun _ mv _ => 6 - (intOf mv).toNat)
          case atStart => exact ⟨0, rfl, by omega, rfl, hI⟩
          case round =>
            clear hI
            obtain ⟨m, rfl, hm, rfl, hJ⟩ := hrel
            have wk : IntKind.i64.wrap ((k : Int) + (m : Int)) = (k : Int) + (m : Int) := by rw [IntKind.wrap_i64]; omega
            by_cases hm6 : k + m < 6
            · have m6 : (k : Int) + (m : Int) < 6 := by omega
              have hgl := inner_len av o k G m
              have hS : inner av o k G (m + 1) = ((inner av o k G m).1.set (k + m) (mst av o k m (inner av o k G m).1 (inner av o k G m).2 % 4294967296), mst av o k m (inner av o k G m).1 (inner av o k G m).2 / 4294967296) := rfl
              obtain ⟨g, hg⟩ : ∃ g, (inner av o k G m).1 = g := ⟨_, rfl⟩
              obtain ⟨cc, hcc⟩ : ∃ c, (inner av o k G m).2 = c := ⟨_, rfl⟩
              rw [hg] at hJ hgl hS
              rw [hcc] at hS ⊢
              clear hg hcc
              have q1 := hJ.out.g.cell (i := k + m) (by omega)
              have q2 := hJ.out.acell hk2
              rw [HAV.out] at q2
              have q3 := hJ.out.pw.out.cell (i := m) (by omega)
              have hT : ((mst av o k m g cc : Nat) : Int) = IntKind.u64.wrap (IntKind.u64.wrap ((cc : Int) + ((g.getD (k + m) 0 : Nat) : Int)) + IntKind.u64.wrap ((av : Int) * ((o.getD m 0 : Nat) : Int))) := by
                exact mst_wrap _ _ _ _
              obtain ⟨t, ht⟩ : ∃ t, mst av o k m g cc = t := ⟨_, rfl⟩
              have htl : t < 18446744073709551616 := by rw [← ht]; unfold mst; omega
              rw [ht] at hT hS
              obtain ⟨gv, hgv⟩ : ∃ v, g.getD (k + m) 0 = v := ⟨_, rfl⟩
              obtain ⟨ov, hov⟩ : ∃ v, o.getD m 0 = v := ⟨_, rfl⟩
              rw [hgv] at q1 hT
              rw [hov] at q3 hT
              replace hT := hT.symm
              have HS := Lib.hid hS
              have Q := Lib.hid (And.intro q1 (And.intro q2 q3))
              have HJ := Lib.hid ((hJ.out.put (k + m) (t % 4294967296)).drew)
              have s1 := hJ.out.g.cell (i := k + m) (by omega)
              have s2 := hJ.out.g.free (k + m)
              have hJl := hJ.out.g.lt
              obtain ⟨sv, hsv⟩ : ∃ v, ((g.getD (k + m) 0 : Nat) : Int) = v := ⟨_, rfl⟩
              rw [hsv] at s1
              clear hsv
              rw [show ((t % 4294967296 : Nat) : Int) = (t : Int) % 4294967296 by omega] at HJ
              have t0 : (0 : Int) ≤ (t : Int) := by omega
              have htl2 : (t : Int) < 18446744073709551616 := by omega
              have tn : ((k : Int) + (m : Int)).toNat = k + m := by omega
              have km0 : 0 ≤ (k : Int) + (m : Int) := by omega
              have m5 : (m : Int) < 6 := by omega
              clear ht hgv hov hS q1 q2 q3 hJ
              go_wp2_with fail
              refine wp_region_held_drew (S := fun W => W.cell? ⟨w0.heap.size + 1, k + m, none⟩ = some (.int .u64 (gv : Int)) ∧ W.cell? ⟨w0.heap.size, k, none⟩ = some (.int .u64 (av : Int)) ∧ W.cell? ⟨w.heap.size + 1, m, none⟩ = some (.int .u64 (ov : Int))) (by kernel_rfl) (Q.out) (fun h0 => ?_)
              refine wpAnyH_take (i := 0) (v := ?_) (by rw [List.getElem?_toArray]; rfl) (by kernel_rfl) (by kernel_rfl) (by kernel_rfl) (by exact fun _ _ _ h => h) (Or.inl ⟨by rfl, ?_⟩) h0 ?_
              rotate_left
              · intro W hW
                go_simp
                all_goals with_reducible rfl
              try simp only [Act.put, List.setIfInBounds_toArray, List.set_cons_zero, List.set_cons_succ]
              refine wpAnyH_take (i := 1) (v := ?_) (by rw [List.getElem?_toArray]; rfl) (by kernel_rfl) (by kernel_rfl) (by kernel_rfl) (by exact fun _ _ _ h => h) (Or.inl ⟨by rfl, ?_⟩) h0 ?_
              rotate_left
              · intro W hW
                go_simp
                all_goals with_reducible rfl
              try simp only [Act.put, List.setIfInBounds_toArray, List.set_cons_zero, List.set_cons_succ]
              refine wpAnyH_take (i := 2) (v := ?_) (by rw [List.getElem?_toArray]; rfl) (by kernel_rfl) (by kernel_rfl) (by kernel_rfl) (by exact fun _ _ _ h => h) (Or.inl ⟨by rfl, ?_⟩) h0 ?_
              rotate_left
              · intro W hW
                go_simp
                all_goals with_reducible rfl
              try simp only [Act.put, List.setIfInBounds_toArray, List.set_cons_zero, List.set_cons_succ]
              refine wpAnyH_take (i := 3) (v := ?_) (by rw [List.getElem?_toArray]; rfl) (by kernel_rfl) (by kernel_rfl) (by kernel_rfl) (by exact fun _ _ _ h => h) (Or.inl ⟨by rfl, ?_⟩) h0 ?_
              rotate_left
              · intro W hW
                go_simp
                all_goals with_reducible rfl
              try simp only [Act.put, List.setIfInBounds_toArray, List.set_cons_zero, List.set_cons_succ]
              refine wpAnyH_take (i := 4) (v := ?_) (by rw [List.getElem?_toArray]; rfl) (by kernel_rfl) (by kernel_rfl) (by kernel_rfl) (by exact fun _ _ _ h => h) (Or.inl ⟨by rfl, ?_⟩) h0 ?_
              rotate_left
              · intro W hW
                go_simp
                all_goals with_reducible rfl
              try simp only [Act.put, List.setIfInBounds_toArray, List.set_cons_zero, List.set_cons_succ]
              refine wpAnyH_take (i := 5) (v := ?_) (by rw [List.getElem?_toArray]; rfl) (by kernel_rfl) (by kernel_rfl) (by kernel_rfl) (by exact fun _ _ _ h => h) (Or.inl ⟨by rfl, ?_⟩) h0 ?_
              rotate_left
              · intro W hW
                obtain ⟨f1, f2, f3⟩ := hW
                go_simp
                all_goals with_reducible rfl
              try simp only [Act.put, List.setIfInBounds_toArray, List.set_cons_zero, List.set_cons_succ]
              refine wpAnyH_take (i := 6) (v := ?_) (by rw [List.getElem?_toArray]; rfl) (by kernel_rfl) (by kernel_rfl) (by kernel_rfl) (by exact fun _ _ _ h => h) (Or.inl ⟨by rfl, ?_⟩) h0 ?_
              rotate_left
              · intro W hW
                go_simp
                all_goals with_reducible rfl
              try simp only [Act.put, List.setIfInBounds_toArray, List.set_cons_zero, List.set_cons_succ]
              refine wpAnyH_take (i := 7) (v := ?_) (by rw [List.getElem?_toArray]; rfl) (by kernel_rfl) (by kernel_rfl) (by kernel_rfl) (by exact fun _ _ _ h => h) (Or.inl ⟨by rfl, ?_⟩) h0 ?_
              rotate_left
              · intro W hW
                go_simp
                all_goals with_reducible rfl
              try simp only [Act.put, List.setIfInBounds_toArray, List.set_cons_zero, List.set_cons_succ]
              refine wpAnyH_take (i := 8) (v := ?_) (by rw [List.getElem?_toArray]; rfl) (by kernel_rfl) (by kernel_rfl) (by kernel_rfl) (by exact fun _ _ _ h => h) (Or.inl ⟨by rfl, ?_⟩) h0 ?_
              rotate_left
              · intro W hW
                go_simp
                all_goals with_reducible rfl
              try simp only [Act.put, List.setIfInBounds_toArray, List.set_cons_zero, List.set_cons_succ]
              refine wpAnyH_take (i := 9) (v := ?_) (by rw [List.getElem?_toArray]; rfl) (by kernel_rfl) (by kernel_rfl) (by kernel_rfl) (by exact fun _ _ _ h => h) (Or.inl ⟨by rfl, ?_⟩) h0 ?_
              rotate_left
              · intro W hW
                obtain ⟨f1, f2, f3⟩ := hW
                go_simp
                all_goals with_reducible rfl
              try simp only [Act.put, List.setIfInBounds_toArray, List.set_cons_zero, List.set_cons_succ]
              refine wpAnyH_take (i := 10) (v := ?_) (by rw [List.getElem?_toArray]; rfl) (by kernel_rfl) (by kernel_rfl) (by kernel_rfl) (by exact fun _ _ _ h => h) (Or.inl ⟨by rfl, ?_⟩) h0 ?_
              rotate_left
              · intro W hW
                go_simp
                all_goals with_reducible rfl
              try simp only [Act.put, List.setIfInBounds_toArray, List.set_cons_zero, List.set_cons_succ]
              refine wpAnyH_take (i := 11) (v := ?_) (by rw [List.getElem?_toArray]; rfl) (by kernel_rfl) (by kernel_rfl) (by kernel_rfl) (by exact fun _ _ _ h => h) (Or.inl ⟨by rfl, ?_⟩) h0 ?_
              rotate_left
              · intro W hW
                go_simp
                all_goals with_reducible rfl
              try simp only [Act.put, List.setIfInBounds_toArray, List.set_cons_zero, List.set_cons_succ]
              refine wpAnyH_take (i := 12) (v := ?_) (by rw [List.getElem?_toArray]; rfl) (by kernel_rfl) (by kernel_rfl) (by kernel_rfl) (by exact fun _ _ _ h => h) (Or.inl ⟨by rfl, ?_⟩) h0 ?_
              rotate_left
              · intro W hW
                obtain ⟨f1, f2, f3⟩ := hW
                go_simp
                all_goals with_reducible rfl
              try simp only [Act.put, List.setIfInBounds_toArray, List.set_cons_zero, List.set_cons_succ]
              refine wpAnyH_take (i := 13) (v := ?_) (by rw [List.getElem?_toArray]; rfl) (by kernel_rfl) (by kernel_rfl) (by kernel_rfl) (by exact fun _ _ _ h => h) (Or.inl ⟨by rfl, ?_⟩) h0 ?_
              rotate_left
              · intro W hW
                go_simp
                all_goals with_reducible rfl
              try simp only [Act.put, List.setIfInBounds_toArray, List.set_cons_zero, List.set_cons_succ]
              refine wpAnyH_take (i := 14) (v := ?_) (by rw [List.getElem?_toArray]; rfl) (by kernel_rfl) (by kernel_rfl) (by kernel_rfl) (by exact fun _ _ _ h => h) (Or.inl ⟨by rfl, ?_⟩) h0 ?_
              rotate_left
              · intro W hW
                go_simp
                all_goals with_reducible rfl
              try simp only [Act.put, List.setIfInBounds_toArray, List.set_cons_zero, List.set_cons_succ]
              refine wpAnyH_take (i := 15) (v := ?_) (by rw [List.getElem?_toArray]; rfl) (by kernel_rfl) (by kernel_rfl) (by kernel_rfl) (by exact fun _ _ _ h => h) (Or.inl ⟨by rfl, ?_⟩) h0 ?_
              rotate_left
              · intro W hW
                go_simp
                all_goals with_reducible rfl
              try simp only [Act.put, List.setIfInBounds_toArray, List.set_cons_zero, List.set_cons_succ]
              refine wpAnyH_done (by kernel_rfl) ?_ _
              go_wp2_with fail
              refine ⟨⟨m + 1, by go_num, by omega, by rw [HS.out]; simp, ?_⟩, by simp [intOf]; omega⟩
              rw [HS.out]
              exact HJ
            · have m6 : ¬ (k : Int) + (m : Int) < 6 := by omega
              have hkm : 6 - k = m := by omega
              rw [hkm] at HG1
              have HJ := hJ
              obtain ⟨G2, hG2⟩ : ∃ G2, (inner av o k G m).1 = G2 := ⟨_, rfl⟩
              obtain ⟨cc, hcc⟩ : ∃ c, (inner av o k G m).2 = c := ⟨_, rfl⟩
              rw [hG2] at HG1 HJ
              rw [hcc]
              clear hJ hkm hm hG2 hcc
              go_wp2_with fail
              refine ⟨⟨k + 1, by go_num, by omega, ?_⟩, by simp [intOf]; omega⟩
              rw [HG1.out]
              exact HJ
        · obtain rfl : k = 2 := by omega
          have hGl := Gk_len y0 y1 o 2
          have HM : Hid (powM x (i + 1) = Gk y0 y1 o 2) := by
            show powM x (i + 1) = _
            unfold powM mulS
            rw [HO.out, HY0.out, HY1.out]
            rfl
          obtain ⟨G, hG⟩ : ∃ G, Gk y0 y1 o 2 = G := ⟨_, rfl⟩
          rw [hG] at hI hGl HM
          clear hG
          have hrow := hI.out.g.row hGl
          have hth := hI.out.pw.out.there hol
          have HN := Lib.hid (hI.out.done hol hGl)
          clear hI
          go_wp2_with fail
          refine ⟨⟨i + 1, by go_num, by omega, ?_⟩, by simp [intOf]; omega⟩
          rw [HM.out]
          exact HN
    · obtain rfl : i = n := by omega
      have hl := powM_len x i
      have hrow := hP.out.out.row hl
      have hth := hP.out.res.there zero6_len
      have hput := (hP.out.res.put zero6_len hl).row hl
      have HB := Lib.hid (below_setCells' (B := w.heap.size) w.heap.size (Nat.le_refl _) (vc (powM x i)) 0 hP.out.below)
      clear hP
      obtain ⟨o, ho⟩ : ∃ o, powM x i = o := ⟨_, rfl⟩
      rw [ho] at hl hrow hput HB
      have EO := Lib.hid ho
      clear ho
      go_wp2_with fail
      refine bodyPost_ret (v := .agg (vc o).toArray) (by simp [results, Tryd.results43, go_sem, hput, hl]) rfl ⟨by rw [EO.out], HB.out⟩
end Go.Proofs.YtlmpmnngheifkaaDoor
