/-
  basculeref02.primes.
-/
import Derived.Test.YtlmpmnngheifkaaDoorRoot
import Derived.Test.YtlmpmnngheifkaaDoorPartsD
namespace Go.Proofs.YtlmpmnngheifkaaDoor
open Go.RowKit
set_option maxRecDepth 100000

def pstep (s : List Nat × Nat) : List Nat × Nat := (if s.1.all (fun q => s.2 % q != 0) then s.1 ++ [s.2] else s.1, s.2 + 1)
def prun : Nat → List Nat × Nat → List Nat × Nat
  | 0, s => s
  | r + 1, s => if s.1.length < 64 then prun r (pstep s) else s
def plist : List Nat := [2, 3, 5, 7, 11, 13, 17, 19, 23, 29, 31, 37, 41, 43, 47, 53, 59, 61, 67, 71, 73, 79, 83, 89, 97, 101, 103, 107, 109, 113, 127, 131, 137, 139, 149, 151, 157, 163, 167, 173, 179, 181, 191, 193, 197, 199, 211, 223, 227, 229, 233, 239, 241, 251, 257, 263, 269, 271, 277, 281, 283, 293, 307, 311]
theorem prun_all : prun 400 ([], 2) = (plist, 312) := by decide +kernel
theorem Tryd.infoU64 : (Tryd.prog.info? 61).map (fun i => (i.zero, i.size, i.bytes)) = some (some (.int .u64 0), 1, 8) := by kernel_rfl
structure PmS (w wr : World) (v : Value) (L : List Nat) : Prop where
  own : wr.ownsRow 0 61 1 v L.length (vc L)
  fresh : ∀ g, v.ownBlock = some g → w.heap.size ≤ g
  below : Below w.heap.size w wr
theorem PmS.on {w wr w1 : World} {v : Value} {L : List Nat} (h : PmS w wr v L) (hb : Below wr.heap.size wr w1) : PmS w w1 v L :=
  ⟨own_on h.own hb, h.fresh, h.below.trans (hb.mono h.below.size)⟩
theorem PmS.grow {w wr w2 : World} {v v' : Value} {L : List Nat} {n : Nat} (h : PmS w wr v L) (own : w2.ownsRow 0 61 1 v' (L.length + 1) (vc L ++ [.int .u64 (n : Int)])) (grow : wr.grownBy w2 v.ownBlock) (fr : v'.ownBlock = v.ownBlock ∨ v'.ownBlock = some wr.heap.size) : PmS w w2 v' (L ++ [n]) := by
  refine ⟨by rw [List.length_append]; simpa [vc] using own, fun g hg => ?_, h.below.grown grow h.below.size (fun k hk => h.fresh k hk)⟩
  rcases fr with e | e
  · rw [e] at hg; exact h.fresh g hg
  · rw [e] at hg; have := h.below.size; simp at hg; omega
theorem PmS.cell {w wr : World} {v : Value} {L : List Nat} (h : PmS w wr v L) {i : Nat} (hi : i < L.length) : ∃ g c, v = .slice (some ⟨g, 0, none⟩) L.length c ∧ wr.cell? ⟨g, i, none⟩ = some (.int .u64 ((L.getD i 0 : Nat) : Int)) := by
  rcases h.own.2 with ⟨_, h0⟩ | ⟨g, cap, cur, rfl, _, hg, _, _, _, htake⟩
  · omega
  · refine ⟨g, cap, rfl, ?_⟩
    have := h.own.cells (g := g) rfl i (.int .u64 ((L.getD i 0 : Nat) : Int)) (by simp [vc, List.getD, hi])
    rw [addr_add, Nat.zero_add] at this
    exact this
theorem all_take {L : List Nat} {p : Nat → Bool} {i : Nat} (hi : i < L.length) : (L.take (i + 1)).all p = ((L.take i).all p && p (L.getD i 0)) := by
  rw [List.take_succ_eq_append_getElem hi, List.all_append]
  simp [List.getD, hi]

set_option maxHeartbeats 4000000 in
theorem primes_any (w : World) : Calls Tryd.prog 40 #[] w fun e w' => ∃ v, e = .returned v ∧ PmS w w' v plist := by
  obtain ⟨i0, hi, hz0, hz1, hz2⟩ := info_parts Tryd.infoU64
  replace hi := Lib.hid hi
  replace hz0 := Lib.hid hz0
  replace hz1 := Lib.hid hz1
  replace hz2 := Lib.hid hz2
  have H0 : Hid (PmS w w (.slice none 0 0) []) := ⟨World.ownsRow_nil w 0 _ 1, by simp [Value.ownBlock], Below.refl _ _⟩
  have HR0 := Lib.hid prun_all
  go_enter Tryd.func40, Tryd.ntmps40
  go_wp2_with fail
  go_loopw [1, 2] (fun ov nv wr => ∃ (r n : Nat) (L : List Nat) (q : Option Addr) (c : Nat), ov = .slice q L.length c ∧ nv = .int .u64 (n : Int) ∧ 2 ≤ n ∧ n + r ≤ 402 ∧ Hid (∀ z ∈ L, 2 ≤ z) ∧ Hid (prun r (L, n) = (plist, 312)) ∧ Hid (PmS w wr (.slice q L.length c) L)) (fun _ nv _ => 402 - (intOf nv).toNat)
  case atStart => exact ⟨400, 2, [], none, 0, rfl, rfl, by omega, by omega, Lib.hid (fun z hz => by cases hz), HR0, H0⟩
  case round =>
    clear H0 HR0
    obtain ⟨r1, n, L, q, c, rfl, rfl, hn2, hnr, hL2, hR, hP⟩ := hrel
    by_cases hl : L.length < 64
    · cases r1 with
      | zero =>
        have h : (L, n) = (plist, 312) := hR.out
        have : L.length = 64 := by rw [show L = plist from (Prod.mk.inj h).1]; rfl
        omega
      | succ r =>
        have HR : Hid (prun r (pstep (L, n)) = (plist, 312)) := by
          have h : prun (r + 1) (L, n) = (plist, 312) := hR.out
          unfold prun at h
          rw [if_pos hl] at h
          exact h
        have l1 : (L.length : Int) < 64 := by omega
        clear hR
        go_wp2_with fail
        obtain ⟨w0, hw0⟩ : ∃ w0 : World, w0 = wr := ⟨_, rfl⟩
        subst hw0
        go_loopw [3, 4] (fun fv iv wr => ∃ i : Nat, iv = .int .i64 i ∧ i ≤ L.length ∧ fv = .bool ((L.take i).all fun z => n % z != 0) ∧ Hid (PmS w wr (.slice q L.length c) L)) (fun _ iv _ => L.length - (intOf iv).toNat)
        case atStart => exact ⟨0, rfl, by omega, rfl, hP⟩
        case round =>
          clear hP
          obtain ⟨i, rfl, hi', rfl, hP⟩ := hrel
          by_cases hlt : i < L.length
          · obtain ⟨g, c', e, hc⟩ := hP.out.cell hlt
            simp only [Value.slice.injEq, true_and] at e
            obtain ⟨rfl, rfl⟩ := e
            have hA := all_take (L := L) (p := fun z => n % z != 0) hlt
            have hz2' : 2 ≤ L.getD i 0 := hL2.out _ (by simp [List.getD, hlt])
            obtain ⟨z, hz⟩ : ∃ z, L.getD i 0 = z := ⟨_, rfl⟩
            rw [hz] at hc hA hz2'
            clear hz
            obtain ⟨f, hf⟩ : ∃ f, ((L.take i).all fun z => n % z != 0) = f := ⟨_, rfl⟩
            rw [hf] at hA ⊢
            have HA := Lib.hid hA
            clear hf hA
            have i1 : (i : Int) < (L.length : Int) := by omega
            have i0 : (0 : Int) ≤ (i : Int) := by omega
            have z0 : ¬ (z : Int) = 0 := by omega
            have z1 : ((z : Int) == 0) = false := by rw [beq_eq_false_iff_ne]; omega
            obtain ⟨b, hb⟩ : ∃ b, (n % z != 0) = b := ⟨_, rfl⟩
            have hb2 : (Int.tmod (n : Int) (z : Int) != 0) = b := by
              rw [Int.tmod_eq_emod_of_nonneg (by omega), ← hb]
              have e : (n : Int) % (z : Int) = ((n % z : Nat) : Int) := by simp
              rw [e, Bool.eq_iff_iff, bne_iff_ne, bne_iff_ne]
              omega
            have hb3 : ((n : Int) % (z : Int) != 0) = b := by rw [← hb2, Int.tmod_eq_emod_of_nonneg (by omega)]
            have HB3 := Lib.hid hb3
            have HB := Lib.hid hb
            clear hb hb3
            cases f with
            | false =>
              go_wp2_with fail
              refine ⟨⟨i + 1, by go_num, by omega, by rw [HA.out]; rfl, hP⟩, by simp [intOf]; omega⟩
            | true =>
              go_wp2_with fail
              refine ⟨⟨i + 1, by go_num, by omega, by rw [HA.out, HB.out]; simp; exact HB3.out, hP⟩, by simp [intOf]; omega⟩
          · obtain rfl : i = L.length := by omega
            have wn : IntKind.u64.wrap ((n : Int) + 1) = ((n + 1 : Nat) : Int) := by rw [IntKind.wrap_u64]; omega
            have HR3 : Hid (prun r (if (L.take L.length).all (fun z => n % z != 0) then L ++ [n] else L, n + 1) = (plist, 312)) := by
              have h : prun r (pstep (L, n)) = (plist, 312) := HR.out
              rw [List.take_length]
              exact h
            obtain ⟨f, hf⟩ : ∃ f, ((L.take L.length).all fun z => n % z != 0) = f := ⟨_, rfl⟩
            rw [hf] at HR3 ⊢
            clear hf HR
            cases f with
            | false =>
              go_wp2_with fail
              refine ⟨⟨r, n + 1, L, q, c, rfl, by go_num, by omega, by omega, hL2, HR3, hP⟩, by simp [intOf]; omega⟩
            | true =>
              go_wp2_with (at_builtin; refine wpList_append_row rfl _ _ rfl Tryd.underlying72 hi.out hz0.out hz1.out hz2.out rfl (own_on hP.out.own ((Below.refl _ _).alloc (Nat.le_refl _) (.cells #[.int .u64 (n : Int)] 61))) (news := [.int .u64 (n : Int)]) (m := 1) ?rd ?b3 ?b4 ?_)
              case rd =>
                refine Src.ofSlice _ Tryd.underlying72 _ _ _ _ rfl (fun j u hu => ?_) (fun u hu => ?_)
                · rw [addr_add, Nat.zero_add, Joins.cell_of_block (heap_alloc_new wr _)]
                  simpa using hu
                · obtain rfl := List.mem_singleton.1 hu
                  rfl
              case b3 => unfold maxLen; omega
              (try case b4 => omega)
              intro q5 k5 w5 own5 grow5 fr5
              have HN := Lib.hid ((hP.out.on ((Below.refl _ _).alloc (Nat.le_refl _) (.cells #[.int .u64 (n : Int)] 61))).grow own5 grow5 (fr5.imp (fun h => h) (fun e => by rw [e]; simp)))
              have HL3 : Hid (∀ z ∈ L ++ [n], 2 ≤ z) := fun z hz => by
                rcases List.mem_append.1 hz with h | h
                · exact hL2.out z h
                · rw [List.mem_singleton.1 h]; exact hn2
              have hle : (L ++ [n]).length = L.length + 1 := by simp
              obtain ⟨M, hM⟩ : ∃ M, L ++ [n] = M := ⟨_, rfl⟩
              rw [hM] at HN HL3 hle
              have HR4 : Hid (prun r (M, n + 1) = (plist, 312)) := by
                have h := HR3.out
                simp only [if_true] at h
                rw [hM] at h
                exact h
              have HLE := Lib.hid hle
              clear own5 grow5 fr5 HR3 hM hle
              go_wp2_with fail
              refine ⟨⟨r, n + 1, M, q5, k5, by rw [HLE.out], by go_num, by omega, by omega, HL3, HR4, by rw [HLE.out]; exact HN⟩, by simp [intOf]; omega⟩
    · have hM : L = plist := by
        have h : prun r1 (L, n) = (plist, 312) := hR.out
        cases r1 with
        | zero => exact (Prod.mk.inj h).1
        | succ r =>
          unfold prun at h
          rw [if_neg hl] at h
          exact (Prod.mk.inj h).1
      have l1 : ¬ (L.length : Int) < 64 := by omega
      have HM := Lib.hid hM
      clear hM hR
      go_wp2_with fail
      go_ret
      exact ⟨_, rfl, by have h := hP.out; rw [HM.out] at h ⊢; exact h⟩
end Go.Proofs.YtlmpmnngheifkaaDoor
