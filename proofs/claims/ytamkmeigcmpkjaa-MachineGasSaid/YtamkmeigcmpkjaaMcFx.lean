/-
  The machine's pop, push, pay and fetch.
-/
import Derived.Test.YtamkmeigcmpkjaaMcMs
import Derived.BigQuiet
import Derived.Deep.QuietTactic
import Derived.Deep.AppendSrc
import Derived.Test.YtamkmeigcmpkjaaFpG
namespace Go.Proofs.Ytamkmeigcmpkjaa
set_option maxRecDepth 100000
open Go.RowKit

theorem dropLast_take {xs : List Int} : xs.dropLast = xs.take (xs.length - 1) := List.dropLast_eq_take
theorem wcs_take (xs : List Int) (n : Nat) : (wcs xs).take n = wcs (xs.take n) := by simp [wcs, List.map_take]
theorem pop_any {a w : World} {p : Nat} {s : Ms} (h : McS a w p s) (hn : 0 < s.stk.length) (hl : s.stk.length ≤ 1000000000000) : Calls Try.prog 18 #[.pointer (some ⟨p, 0, none⟩)] w (Ret (.int .u64 s.top) a w p { s with stk := s.stk.dropLast }) := by
  obtain ⟨q, c, h1, h2, h3⟩ := h.ex
  have C : McC w p s q c := ⟨h1, h2⟩
  obtain ⟨k, hk⟩ : ∃ k, s.stk.length = k + 1 := ⟨s.stk.length - 1, by omega⟩
  have hd : s.stk.dropLast.length = k := by rw [List.length_dropLast]; omega
  have ht : s.top = s.stk.getD k 0 := by unfold Ms.top; rw [hk]; rfl
  have O2 : w.ownsRow 0 23 1 (.slice q k c) k (wcs s.stk.dropLast) := by
    have := own_cut h2 (m := k) (by omega)
    rw [wcs_take] at this
    rw [dropLast_take, hk]
    exact this
  obtain ⟨g, rfl, cg, ug⟩ := C.at (i := k) (by omega)
  have R := Lib.hid (McS.stack (xs := s.stk.dropLast) h1 h.pl h.below (by rw [hd]; exact O2) (by rw [hd]; intro x hx; exact h3 x (by simpa [Value.ownBlock] using hx)))
  rw [hd] at R
  have hcap : k + 1 ≤ c := by
    rcases h2.2 with ⟨e, _⟩ | ⟨g', cap, cur, e, _, hg, hnc, hcm, _⟩
    · simp at e
    · simp only [Value.slice.injEq, Option.some.injEq, Addr.mk.injEq, and_true, true_and] at e
      omega
  have hcm : c ≤ maxLen := by
    rcases h2.2 with ⟨e, _⟩ | ⟨g', cap, cur, e, _, hg, hnc, hcm, _⟩
    · simp at e
    · simp only [Value.slice.injEq, Option.some.injEq, Addr.mk.injEq, and_true, true_and] at e
      omega
  unfold maxLen at hcm
  have c4 := C.c4
  have u4 := C.un 4
  rw [hk] at c4
  rw [ht]
  obtain ⟨x, hx⟩ : ∃ x, s.stk.getD k 0 = x := ⟨_, rfl⟩
  rw [hx] at cg ⊢
  have w1 : IntKind.i64.wrap (((k + 1 : Nat) : Int) - 1) = (k : Int) := by
    rw [show ((k + 1 : Nat) : Int) - 1 = (k : Int) by omega]; exact IntWalk.i64_in _ (by omega)
  have w2 : IntKind.i64.wrap ((k : Int) + 1 - 1) = (k : Int) := by
    rw [show (k : Int) + 1 - 1 = (k : Int) by omega]; exact IntWalk.i64_in _ (by omega)
  clear h h1 h2 h3 C ht hx O2 hn hl
  go_enter Try.func18, Try.ntmps18
  go_wp2_with fail
  go_ret
  exact ⟨rfl, R.out, Kept.setCell _ _ _ _⟩

theorem Try.infoU64 : (Try.prog.info? 23).map (fun i => (i.zero, i.size, i.bytes)) = some (some (.int .u64 0), 1, 8) := by kernel_rfl
theorem push_any {a w : World} {p : Nat} {s : Ms} (h : McS a w p s) (hl : s.stk.length ≤ 1000000000000) (x : Int) : Calls Try.prog 19 #[.pointer (some ⟨p, 0, none⟩), .int .u64 x] w (Ret (.tuple #[]) a w p { s with stk := s.stk ++ [x] }) := by
  obtain ⟨i0, hi, hz0, hz1, hz2⟩ := info_parts Try.infoU64
  replace hi := Lib.hid hi
  replace hz0 := Lib.hid hz0
  replace hz1 := Lib.hid hz1
  replace hz2 := Lib.hid hz2
  obtain ⟨q, c, h1, h2, h3⟩ := h.ex
  have C : McC w p s q c := ⟨h1, h2⟩
  have c4 := C.c4
  have hp := (Array.getElem?_eq_some_iff.1 h1).1
  have ba : Below w.heap.size w (w.alloc (.cells #[.int .u64 x] 23)) := (Below.refl _ _).alloc (Nat.le_refl _) _
  have OW := Lib.hid (own_on h2 ba)
  have BA := Lib.hid ba
  have H1 : Hid ((w.alloc (.cells #[.int .u64 x] 23)).heap[p]? = some (.cells (stRow s q c).toArray 31 (0, 0))) := by
    show _ = _
    rw [ba.block _ hp]; exact h1
  have SR := Lib.hid (src_any (P := Try.prog) (T := 23) (n := 1) (w := w) (R := [.int .u64 x]) Try.underlying24 rfl (by simp [Value.oneCell']))
  have BL := Lib.hid (h.below.trans (ba.mono h.below.size))
  have PL := Lib.hid h.pl
  have FR := Lib.hid h3
  have NE := Lib.hid (own_ne h2 h1 (by decide))
  obtain ⟨n, hn⟩ : ∃ n, s.stk.length = n := ⟨_, rfl⟩
  have HN := Lib.hid hn
  have hz : (w.alloc (.cells #[.int .u64 x] 23)).heap.size = w.heap.size + 1 := by simp
  have HZ := Lib.hid (show a.heap.size ≤ (w.alloc (.cells #[.int .u64 x] 23)).heap.size by have := h.below.size; omega)
  rw [hn] at c4 OW NE FR hl
  clear h h1 h2 h3 C ba hn hz hp
  go_enter Try.func19, Try.ntmps19
  go_wp2_with (at_builtin; refine wpList_append_row rfl _ _ rfl Try.underlying24 hi.out hz0.out hz1.out hz2.out rfl OW.out SR.out ?b1 ?b2 ?_)
  case b1 => unfold maxLen; omega
  case b2 => omega
  intro q8 k8 w8 own8 grow8 fr8
  have H8 : w8.heap[p]? = some (.cells (stRow s q c).toArray 31 (0, 0)) := by
    rw [grow8.block p (Array.getElem?_eq_some_iff.1 H1.out).1 (fun e => NE.out e.symm)]
    exact H1.out
  have F8 : ∀ g, (Value.slice q8 (n + 1) k8).ownBlock = some g → a.heap.size ≤ g := fun g hg => by
    rcases fr8 with e | e
    · rw [e] at hg; exact FR.out g hg
    · rw [e] at hg
      have h9 : (w.alloc (.cells #[.int .u64 x] 23)).heap.size = g := by simpa using hg
      have := HZ.out
      omega
  have B8 : Below a.heap.size a w8 := BL.out.grown grow8 BL.out.size (fun j hj => FR.out j hj)
  have C8 : McC w8 p s q c → w8.frozen? ⟨p, 4, none⟩ = false := fun C => C.un 4
  have u4 : w8.frozen? ⟨p, 4, none⟩ = false := Joins.unfrozen_of_block H8 4
  have c4' : w8.cell? ⟨p, 4, none⟩ = some (.slice q n c) := (Joins.cell_of_block H8 4).trans (by rw [← HN.out]; rfl)
  have hap : (s.stk ++ [x]).length = n + 1 := by rw [List.length_append, HN.out]; rfl
  have R := McS.stack (xs := s.stk ++ [x]) (q' := q8) (c' := k8) H8 PL.out B8 (by
    rw [hap, wcs_append]
    exact own8) (by rw [hap]; exact F8)
  rw [hap] at R
  have R := Lib.hid R
  have KP := Lib.hid (((Kept.below BA.out).trans (Kept.grown grow8 OW.out)).trans (Kept.setCell p w8 4 (.slice q8 (n + 1) k8)))
  clear own8 grow8 fr8 H8 F8 B8 C8 H1 SR OW c4
  go_wp2_with fail
  go_end0
  exact ⟨rfl, R.out, KP.out⟩
end Go.Proofs.Ytamkmeigcmpkjaa
