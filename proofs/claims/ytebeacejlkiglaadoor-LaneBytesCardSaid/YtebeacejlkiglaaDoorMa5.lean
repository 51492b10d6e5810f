/-
  The writer's Uint, where there is room.; Rows of one's own, of whatever element; basculelaw02.Parts.; The walk of digest.Sum.; Rows of bytes, read with their room; a hash's cells.; The walks of basculeref02: eight, pad.
-/
import Derived.Test.YtebeacejlkiglaaDoorMa1
import Derived.Test.YtebeacejlkiglaaDoorMa3
import Derived.Test.YtebeacejlkiglaaDoorMa4
namespace Go.Proofs.YtebeacejlkiglaaDoor
set_option maxRecDepth 100000
open Go.RowKit

/-- The slice v holds these numbers, and lies in no block of S. -/
def RdN (w : World) (v : Value) (ns : List Int) (S : List Nat) : Prop := ∃ q c, v = .slice q ns.length c ∧ (ns = [] ∨ ∃ b off, q = some ⟨b, off, none⟩ ∧ b ∉ S ∧ ∀ i, i < ns.length → w.cell? ⟨b, off + i, none⟩ = some (.int .u64 (ns.getD i 0)))
theorem RdN.at {w : World} {q : Option Addr} {n c : Nat} {ns : List Int} {S : List Nat} (h : RdN w (.slice q n c) ns S) {i : Nat} (hi : i < ns.length) :
    ∃ b off, n = ns.length ∧ q = some ⟨b, off, none⟩ ∧ b ∉ S ∧ w.cell? ⟨b, off + i, none⟩ = some (.int .u64 (ns.getD i 0)) := by
  obtain ⟨q', c', e, rfl | ⟨b, off, rfl, hb, hx⟩⟩ := h
  · simp at hi
  · simp only [Value.slice.injEq] at e
    exact ⟨b, off, e.2.1, e.1, hb, hx i hi⟩
/-- The bytes of numbers. -/
def nums (ns : List Int) : List Int := ns.flatMap be8
theorem nums_take {ns : List Int} {i : Nat} (hi : i < ns.length) : nums (ns.take (i + 1)) = nums (ns.take i) ++ be8 (ns.getD i 0) := by
  have e : ns.take (i + 1) = ns.take i ++ [ns.getD i 0] := by
    rw [List.take_add_one]
    simp [List.getD, hi]
  rw [e, nums, List.flatMap_append]
  simp [nums]
theorem nums_len : ∀ ns : List Int, (nums ns).length = 8 * ns.length
  | [] => rfl
  | n :: ns => by
    have := nums_len ns
    simp only [nums, List.flatMap_cons, List.length_append, be8_len, List.length_cons] at this ⊢
    omega

theorem room_yes {w : World} {p : Nat} {v : Value} {xs : List Int} (h : WrV w p v xs) {n s : Nat} (hs : 0 < s) (hl : xs.length + n * s ≤ 65536) :
    Calls Tryd.prog 61 #[.pointer (some ⟨p, 0, none⟩), .int .i64 n, .int .i64 s] w fun e w' => e = .returned (.bool true) ∧ w' = w := by
  obtain ⟨c0, c1, -⟩ := h.cells
  obtain ⟨qv, kv, rfl⟩ := h.rd.len
  go_enter Tryd.func61, Tryd.ntmps61
  have hd : decide ((n : Int) ≤ (65536 - (xs.length : Int)) / (s : Int)) = true := by
    refine decide_eq_true (Int.le_ediv_of_mul_le (by omega) ?_)
    have : ((n * s : Nat) : Int) ≤ 65536 - (xs.length : Int) := by omega
    rw [Int.natCast_mul] at this
    exact this
  go_wp2_with fail
  go_ret
  exact ⟨rfl, rfl⟩

set_option maxHeartbeats 4000000 in
theorem WUint_fits {w : World} {p : Nat} {v : Value} {xs : List Int} (h : WrV w p v xs) {a : Value} {ns : List Int} (hN : RdN w a ns (p :: v.ownBlock.toList)) (hl : xs.length + 8 * ns.length ≤ 65536) :
    Calls Tryd.prog 42 #[.pointer (some ⟨p, 0, none⟩), a] w fun e w' => e = .returned (.int .i64 0) ∧ WSt w p v w' (xs ++ nums ns) := by
  have H0 : Hid (WSt w p v w (xs ++ nums (ns.take 0))) := by
    show WSt w p v w _
    exact (WSt.start h).of_eq (by simp [nums])
  obtain ⟨c0, c1, -⟩ := h.cells
  have hroom := Lib.hid (room_yes h (n := ns.length) (s := 8) (by omega) (by omega))
  obtain ⟨qv, kv, rfl⟩ := h.rd.len
  obtain ⟨q, c, rfl⟩ : ∃ q c, a = .slice q ns.length c := by obtain ⟨q, c, e, _⟩ := hN; exact ⟨q, c, e⟩
  have HN := Lib.hid hN
  have hn : ns.length ≤ 65536 := by omega
  clear h hN
  go_enter Tryd.func42, Tryd.ntmps42
  go_wp2_with fail
  refine (hroom.out).mono ?_
  rintro e wx ⟨rfl, rfl⟩
  go_wp2_with fail
  obtain ⟨w0, rfl⟩ : ∃ w0 : World, w0 = wx := ⟨_, rfl⟩
  clear c0 c1 hroom
  go_loopw [6, 26] (fun _ iv wr => ∃ i : Nat, iv = .int .i64 i ∧ i ≤ ns.length ∧ Hid (WSt w0 p (.slice qv xs.length kv) wr (xs ++ nums (ns.take i)))) (fun _ iv _ => ns.length - (intOf iv).toNat)
  case atStart => exact ⟨0, rfl, by omega, H0⟩
  case round =>
    clear H0
    obtain ⟨i, rfl, hil, hS⟩ := hrel
    by_cases hlt : i < ns.length
    · obtain ⟨q1, k1, h1, h2, h3⟩ := hS.out.own
      obtain ⟨b, off, -, rfl, hbS, hcw⟩ := HN.out.at hlt
      have hc : wr.cell? ⟨b, off + i, none⟩ = some (.int .u64 (ns.getD i 0)) := by
        rw [World.cell?_of_block (w := w0) (h2.block b (lt_of_cell hcw) hbS)]; exact hcw
      have hlen : (xs ++ nums (ns.take i)).length ≤ 65536 := by
        rw [List.length_append, nums_len, List.length_take]; omega
      have H1 := Lib.hid h1
      have H23 := Lib.hid (And.intro h2 h3)
      have HB := Lib.hid (nums_take hlt)
      clear h1 h2 h3 hS hcw hbS
      generalize hbb : ns.getD i 0 = x at hc HB
      go_wp2_with fail
      refine (putUint_any H1.out hlen _).mono ?_
      rintro e w3 ⟨rfl, hw3⟩
      have HS3 : Hid (WSt w0 p (.slice qv xs.length kv) w3 (xs ++ nums (ns.take i) ++ be8 x)) :=
        WSt.trans ⟨_, H1.out, H23.out.1, H23.out.2⟩ (fun u hu => by
          have e1 : u = .slice q1 (xs ++ nums (ns.take i)).length k1 := by
            have := hu.cells.2.1
            rw [H1.out.cells.2.1] at this
            exact (Option.some.inj this).symm
          rw [e1]
          exact hw3)
      clear hw3 H1 H23 hc
      go_wp2_with fail
      go_roundw
      case rel =>
        refine ⟨i + 1, by go_num, by omega, ?_⟩
        show WSt w0 p _ _ _
        rw [HB.out, ← List.append_assoc]
        exact HS3.out
      case measure => simp [intOf]; omega
    · obtain rfl : i = ns.length := by omega
      have hb := hS.out
      rw [List.take_length] at hb
      replace hS := Lib.hid hb
      clear hb
      go_wp2_with fail
      go_ret
      exact ⟨rfl, hS.out⟩
end Go.Proofs.YtebeacejlkiglaaDoor
namespace Go.Proofs.YtebeacejlkiglaaDoor
set_option maxRecDepth 100000
open Go.RowKit

section
variable {w w' : World} {e : TypeId} {size : Nat} {v : Value} {n : Nat} {xs : List Value}
theorem own_lt (h : w.ownsRow 0 e size v n xs) {k : Nat} (hk : v.ownBlock = some k) : k < w.heap.size := by
  rcases h.2 with ⟨rfl, _⟩ | ⟨g, cap, cur, rfl, _, hg, _⟩
  · simp [Value.ownBlock] at hk
  · obtain rfl : g = k := by simpa [Value.ownBlock] using hk
    exact (Array.getElem?_eq_some_iff.1 hg).1
theorem own_ne (h : w.ownsRow 0 e size v n xs) {p : Nat} {cs : Array Value} {t : TypeId} {fr : Nat × Nat} (hp : w.heap[p]? = some (.cells cs t fr)) (ht : t ≠ e) : v.ownBlock ≠ some p := by
  rcases h.2 with ⟨rfl, _⟩ | ⟨g, cap, cur, rfl, _, hg, _⟩
  · simp [Value.ownBlock]
  · intro hk
    obtain rfl : g = p := by simpa [Value.ownBlock] using hk
    rw [hp] at hg
    simp at hg
    exact ht hg.2.1
theorem own_keep (h : w.ownsRow 0 e size v n xs) (hb : ∀ k, v.ownBlock = some k → w'.heap[k]? = w.heap[k]?) : w'.ownsRow 0 e size v n xs := by
  refine ⟨h.1, ?_⟩
  rcases h.2 with hn | ⟨g, cap, cur, rfl, hq, hg, r⟩
  · exact .inl hn
  · exact .inr ⟨g, cap, cur, rfl, hq, by rw [hb g rfl]; exact hg, r⟩
theorem own_chg2 {S : List Nat} (h : w.ownsRow 0 e size v n xs) (hc : Chg w w' S) (hS : ∀ k, v.ownBlock = some k → k ∉ S) : w'.ownsRow 0 e size v n xs :=
  own_keep h fun k hk => hc.block k (own_lt h hk) (hS k hk)
theorem own_on (h : w.ownsRow 0 e size v n xs) (hb : Below w.heap.size w w') : w'.ownsRow 0 e size v n xs := own_chg2 h (Chg.below hb (Nat.le_refl _) []) (by simp)
theorem own_two {e' : TypeId} {size' : Nat} {v' : Value} {n' : Nat} {xs' : List Value} (h : w.ownsRow 0 e size v n xs) (h' : w.ownsRow 0 e' size' v' n' xs') (ht : e ≠ e') {k : Nat} (hk : v.ownBlock = some k) : v'.ownBlock ≠ some k := by
  rcases h.2 with ⟨rfl, _⟩ | ⟨g, cap, cur, rfl, _, hg, _⟩
  · simp [Value.ownBlock] at hk
  · obtain rfl : g = k := by simpa [Value.ownBlock] using hk
    exact own_ne h' hg ht
theorem own_slice (h : w.ownsRow 0 e size v n xs) : ∃ q c, v = .slice q n c := by
  rcases h.2 with ⟨rfl, rfl⟩ | ⟨g, cap, cur, rfl, _⟩
  · exact ⟨_, _, rfl⟩
  · exact ⟨_, _, rfl⟩
theorem own_empty (w : World) (e : TypeId) (size : Nat) : (w.alloc (.cells #[] e)).ownsRow 0 e size (.slice (some ⟨w.heap.size, 0, none⟩) 0 0) 0 [] :=
  ⟨by simp, .inr ⟨w.heap.size, 0, #[], rfl, Nat.zero_le _, heap_alloc_new w _, Nat.le_refl _, Nat.zero_le _, by simp, by simp⟩⟩
end

theorem Tryd.infoU8s : (Tryd.prog.info? 42).map (fun i => (i.zero, i.size, i.bytes)) = some (some (.slice none 0 0), 1, 24) := by kernel_rfl

/-- k slices were copied. -/
structure PtS (w wr : World) (L : List (List Int)) (k : Nat) (v : Value) (vs : List Value) : Prop where
  own : wr.ownsRow 0 42 1 v k vs
  len : vs.length = k
  each : ∀ i u, vs[i]? = some u → wr.ownsRow 0 5 1 u (L.getD i []).length (bc (L.getD i [])) ∧ ∀ g, u.ownBlock = some g → w.heap.size ≤ g
  fresh : ∀ g, v.ownBlock = some g → w.heap.size ≤ g
  below : Below w.heap.size w wr

set_option maxHeartbeats 4000000 in
theorem Parts_any {w : World} {a : Value} {L : List (List Int)} (hL : RdL w a L []) (hn : L.length * 24 ≤ 140737488355328) (hx : ∀ i, (L.getD i []).length ≤ 140737488355328) :
    Calls Tryd.prog 9 #[a] w fun e w' => ∃ v vs, e = .returned v ∧ PtS w w' L L.length v vs := by
  obtain ⟨i0, hi, hz0, hz1, hz2⟩ := info_parts Tryd.infoU8
  obtain ⟨j0, hj, ez0, ez1, ez2⟩ := info_parts Tryd.infoU8s
  have H0 : Hid (PtS w w L 0 (.slice none 0 0) []) := ⟨World.ownsRow_nil w 0 _ 1, rfl, by simp, by simp [Value.ownBlock], Below.refl _ _⟩
  obtain ⟨q, c, rfl⟩ : ∃ q c, a = .slice q L.length c := by obtain ⟨q, c, e, _⟩ := hL; exact ⟨q, c, e⟩
  have HL := Lib.hid hL
  clear hL
  replace hi := Lib.hid hi
  replace hz0 := Lib.hid hz0
  replace hz1 := Lib.hid hz1
  replace hz2 := Lib.hid hz2
  replace hj := Lib.hid hj
  replace ez0 := Lib.hid ez0
  replace ez1 := Lib.hid ez1
  replace ez2 := Lib.hid ez2
  go_enter Tryd.func9, Tryd.ntmps9
  go_wp2_with fail
  go_loopw [3, 4] (fun ov iv wr => ∃ k : Nat, iv = .int .i64 k ∧ k ≤ L.length ∧ ∃ qo co, ov = .slice qo k co ∧ ∃ vs, Hid (PtS w wr L k ov vs)) (fun _ iv _ => L.length - (intOf iv).toNat)
  case atStart => exact ⟨0, rfl, by omega, _, _, rfl, [], H0⟩
  case round =>
    clear H0
    obtain ⟨k, rfl, hk, qo, co, rfl, vs, hS⟩ := hrel
    by_cases hlt : k < L.length
    · obtain ⟨b, off, r, m, kc, hm0, rfl, -, cb, hm, hrd, -⟩ := (HL.out.chg (Chg.below hS.out.below (Nat.le_refl _) [])).at hlt
      have HR := Lib.hid hrd
      have hxk := hx k
      have hbl := lt_of_cell cb
      subst hm
      clear hrd
      generalize hxs : L.getD k [] = xs at cb HR hxk ⊢
      go_wp2_with (at_builtin; refine wpList_append_row rfl _ _ rfl Tryd.underlying42 hi.out hz0.out hz1.out hz2.out rfl (own_empty wr 5 1) ((HR.out.alloc _).src (P := Tryd.prog) Tryd.underlying42) ?b1 ?b2 ?_)
      case b1 => unfold maxLen; omega
      intro q2 k2 w2 own2 grow2 fr2
      have H9 := Lib.hid own2
      have G2 : Below wr.heap.size wr w2 := ((Below.refl _ _).alloc (Nat.le_refl _) (.cells #[] 5)).grown grow2 (by simp) (by intro g hg; simp [Value.ownBlock] at hg; omega)
      have F2 : Hid (∀ g, (Value.slice q2 xs.length k2).ownBlock = some g → wr.heap.size ≤ g) := fun g hg => by
        rcases fr2 with e | e
        · rw [e] at hg; simp [Value.ownBlock] at hg; omega
        · rw [e] at hg; simp at hg; omega
      have G2' := Lib.hid G2
      have O2 := Lib.hid (own_on hS.out.own G2)
      clear own2 grow2 fr2 G2
      go_wp2_with (at_builtin; refine wpList_append_row rfl _ _ rfl Tryd.underlying22 hj.out ez0.out ez1.out ez2.out rfl (own_on O2.out ((Below.refl _ _).alloc (Nat.le_refl _) (.cells #[.slice q2 xs.length k2] 42))) (news := [.slice q2 xs.length k2]) (m := 1) ?rd ?b3 ?b4 ?_)
      case rd =>
        refine Src.ofSlice _ Tryd.underlying22 _ _ _ _ rfl (fun j u hu => ?_) (fun u hu => ?_)
        · rw [addr_add, Nat.zero_add, Joins.cell_of_block (heap_alloc_new w2 _)]
          simpa using hu
        · obtain rfl := List.mem_singleton.1 hu
          rfl
      case b3 => unfold maxLen; omega
      (try case b4 => omega)
      intro q5 k5 w5 own5 grow5 fr5
      have HN : Hid (PtS w w5 L (k + 1) (.slice q5 (k + 1) k5) (vs ++ [.slice q2 xs.length k2])) := by
        have hb4 : Below w2.heap.size w2 (w2.alloc (.cells #[.slice q2 xs.length k2] 42)) := (Below.refl _ _).alloc (Nat.le_refl _) _
        have G4 : Below wr.heap.size wr (w2.alloc (.cells #[.slice q2 xs.length k2] 42)) := G2'.out.trans (hb4.mono G2'.out.size)
        have hc : Chg (w2.alloc (.cells #[.slice q2 xs.length k2] 42)) w5 (Value.slice qo k co).ownBlock.toList := Chg.grown grow5 (fun g hg => by simp [hg])
        have ho := own_on O2.out hb4
        have keep : ∀ {u : Value} {m : Nat} {ys : List Value}, (w2.alloc (.cells #[.slice q2 xs.length k2] 42)).ownsRow 0 5 1 u m ys → w5.ownsRow 0 5 1 u m ys := fun h =>
          own_chg2 h hc (fun g hg hm => own_two h ho (by decide) hg (by simpa using hm))
        have hw := hS.out.below.size
        have hw2 := G2'.out.size
        refine ⟨own5, by rw [List.length_append, hS.out.len]; rfl, ?_, ?_, ?_⟩
        · intro i u hu
          by_cases hik : i < k
          · rw [List.getElem?_append_left (by rw [hS.out.len]; exact hik)] at hu
            obtain ⟨e1, e2⟩ := hS.out.each i u hu
            exact ⟨keep (own_on e1 G4), e2⟩
          · rw [List.getElem?_append_right (by rw [hS.out.len]; omega), hS.out.len] at hu
            have hi0 : i = k := by
              have := (List.getElem?_eq_some_iff.1 hu).1
              simp at this
              omega
            subst hi0
            obtain rfl : (Value.slice q2 xs.length k2) = u := by simpa using hu
            rw [hxs]
            exact ⟨keep (own_on H9.out hb4), fun g hg => Nat.le_trans hw (F2.out g hg)⟩
        · intro g hg
          rcases fr5 with e | e
          · exact hS.out.fresh g (by rw [← e]; exact hg)
          · rw [e] at hg; simp at hg; omega
        · refine (hS.out.below.trans (G4.mono hw)).trans (hc.toBelow ?_ ?_)
          · have := G4.size; omega
          · intro g hg; exact hS.out.fresh g (by simpa using hg)
      clear own5 grow5 fr5 H9 F2 O2 G2' hS HR cb
      go_wp2_with fail
      go_roundw
      case rel => exact ⟨k + 1, by go_num, by omega, _, _, rfl, _, HN⟩
      case measure => simp [intOf]; omega
    · obtain rfl : k = L.length := by omega
      go_wp2_with fail
      go_ret
      exact ⟨_, vs, rfl, hS.out⟩
end Go.Proofs.YtebeacejlkiglaaDoor
namespace Go.Proofs.YtebeacejlkiglaaDoor
open Go.RowKit
set_option maxRecDepth 100000

theorem zero128 (w : World) : (zeroValue 123).run Tryd.prog w = .ok (.agg (Array.replicate 128 (.int .u8 0))) w := by kernel_rfl
@[go_sem] theorem Tryd.idx8_0 (w : World) (a b c d e f g h : Int) : (Instr.index 111 (.agg #[.int .u32 a, .int .u32 b, .int .u32 c, .int .u32 d, .int .u32 e, .int .u32 f, .int .u32 g, .int .u32 h]) (.int .i64 0)).run Tryd.prog w = .ok (.int .u32 a) w := by kernel_rfl
@[go_sem] theorem Tryd.idx8_1 (w : World) (a b c d e f g h : Int) : (Instr.index 111 (.agg #[.int .u32 a, .int .u32 b, .int .u32 c, .int .u32 d, .int .u32 e, .int .u32 f, .int .u32 g, .int .u32 h]) (.int .i64 1)).run Tryd.prog w = .ok (.int .u32 b) w := by kernel_rfl
@[go_sem] theorem Tryd.idx8_2 (w : World) (a b c d e f g h : Int) : (Instr.index 111 (.agg #[.int .u32 a, .int .u32 b, .int .u32 c, .int .u32 d, .int .u32 e, .int .u32 f, .int .u32 g, .int .u32 h]) (.int .i64 2)).run Tryd.prog w = .ok (.int .u32 c) w := by kernel_rfl
@[go_sem] theorem Tryd.idx8_3 (w : World) (a b c d e f g h : Int) : (Instr.index 111 (.agg #[.int .u32 a, .int .u32 b, .int .u32 c, .int .u32 d, .int .u32 e, .int .u32 f, .int .u32 g, .int .u32 h]) (.int .i64 3)).run Tryd.prog w = .ok (.int .u32 d) w := by kernel_rfl
@[go_sem] theorem Tryd.idx8_4 (w : World) (a b c d e f g h : Int) : (Instr.index 111 (.agg #[.int .u32 a, .int .u32 b, .int .u32 c, .int .u32 d, .int .u32 e, .int .u32 f, .int .u32 g, .int .u32 h]) (.int .i64 4)).run Tryd.prog w = .ok (.int .u32 e) w := by kernel_rfl
@[go_sem] theorem Tryd.idx8_5 (w : World) (a b c d e f g h : Int) : (Instr.index 111 (.agg #[.int .u32 a, .int .u32 b, .int .u32 c, .int .u32 d, .int .u32 e, .int .u32 f, .int .u32 g, .int .u32 h]) (.int .i64 5)).run Tryd.prog w = .ok (.int .u32 f) w := by kernel_rfl
@[go_sem] theorem Tryd.idx8_6 (w : World) (a b c d e f g h : Int) : (Instr.index 111 (.agg #[.int .u32 a, .int .u32 b, .int .u32 c, .int .u32 d, .int .u32 e, .int .u32 f, .int .u32 g, .int .u32 h]) (.int .i64 6)).run Tryd.prog w = .ok (.int .u32 g) w := by kernel_rfl
@[go_sem] theorem Tryd.idx8_7 (w : World) (a b c d e f g h : Int) : (Instr.index 111 (.agg #[.int .u32 a, .int .u32 b, .int .u32 c, .int .u32 d, .int .u32 e, .int .u32 f, .int .u32 g, .int .u32 h]) (.int .i64 7)).run Tryd.prog w = .ok (.int .u32 h) w := by kernel_rfl
def msr : Value → Value → Nat
  | .slice _ n _, .bool true => n
  | .slice _ n _, _ => n + 1000
  | _, _ => 0

set_option maxHeartbeats 4000000 in
theorem Sum_any {w : World} {v : Value} {xs : List Int} (hr : RdC w v xs) (hx : Bytes xs) (hT : Tbl w) :
    Calls Tryd.prog 73 #[v] w fun e w' => e = .returned (.agg (hc (sha xs)).toArray) ∧ Below w.heap.size w w' := by
  obtain ⟨q, c, rfl, hlc, hq⟩ := hr
  obtain ⟨b, off, hqb, hcell⟩ : ∃ b off, (xs.length = 0 ∨ q = some ⟨b, off, none⟩) ∧ ∀ i, i < xs.length → w.cell? ⟨b, off + i, none⟩ = some (.int .u8 (xs.getD i 0)) := by
    rcases hq with rfl | ⟨b, off, h1, h2⟩
    · exact ⟨0, 0, .inl rfl, fun i hi => by simp at hi⟩
    · exact ⟨b, off, .inr h1, h2⟩
  have HC := Lib.hid hcell
  have HT := Lib.hid hT
  have HX := Lib.hid hx
  have HQ := Lib.hid hqb
  clear hcell hT hx hqb hq
  have hz := zero128
  have h0 : Hid (SmSt w (((w.alloc (.cells (hc zero32).toArray 36)).alloc (.cells #[.int .u32 1779033703, .int .u32 3144134277, .int .u32 1013904242, .int .u32 2773480762, .int .u32 1359893119, .int .u32 2600822924, .int .u32 528734635, .int .u32 1541459225] 111)).alloc (.cells (Array.replicate 128 (.int .u8 0)) 123)) iv (fun _ => 0)) := by
    refine ⟨?_, ?_, ?_, ?_⟩
    · exact (((Below.refl _ _).alloc (Nat.le_refl _) _).alloc (by simp) _).alloc (by simp; omega) _
    · exact ((HashAt.new w zero32).alloc _).alloc _
    · have := (RwK.newL .u32 (w.alloc (.cells (hc zero32).toArray 36)) iv.lst 111).alloc (.cells (Array.replicate 128 (.int .u8 0)) 123)
      simp only [World.size_alloc] at this
      exact this
    · have := RwK.new .u8 ((w.alloc (.cells (hc zero32).toArray 36)).alloc (.cells #[.int .u32 1779033703, .int .u32 3144134277, .int .u32 1013904242, .int .u32 2773480762, .int .u32 1359893119, .int .u32 2600822924, .int .u32 528734635, .int .u32 1541459225] 111)) 128 123
      simp only [World.size_alloc] at this
      exact this
  have hI : Hid (Inv xs b off w false 0 xs.length q (((w.alloc (.cells (hc zero32).toArray 36)).alloc (.cells #[.int .u32 1779033703, .int .u32 3144134277, .int .u32 1013904242, .int .u32 2773480762, .int .u32 1359893119, .int .u32 2600822924, .int .u32 528734635, .int .u32 1541459225] 111)).alloc (.cells (Array.replicate 128 (.int .u8 0)) 123))) :=
    ⟨_, _, h0.out, fun _ => ⟨by omega, by simpa using HQ.out, rfl, rfl⟩, fun e => Bool.noConfusion e⟩
  clear h0 HQ
  go_enter Tryd.func73, Tryd.ntmps73
  go_wp2_with fail
  go_step3
  go_wp2_with fail
  go_step3
  go_wp2_with fail
  clear hz
  go_loopw [5, 6] (fun lv ev wr => ∃ (e : Bool) (i n k : Nat) (q : Option Addr), ev = .bool e ∧ lv = .slice q n k ∧ n ≤ k ∧ Hid (Inv xs b off w e i n q wr)) (fun lv ev _ => msr lv ev)
  case atStart => exact ⟨false, 0, _, _, _, rfl, rfl, hlc, hI⟩
  case round =>
    clear hI
    obtain ⟨e, i, n, k, q, rfl, rfl, hnk, hI⟩ := hrel
    by_cases hn : 64 ≤ n
    · obtain ⟨bb, oo, Bf, S, F, rfl, hc, hb8, hm, hstep⟩ := hI.out.block hn HX.out HC.out
      have hTr := hm.tab HT.out
      have KM := Lib.hid (mix_any S hn hnk hc hb8 hTr)
      have HM := Lib.hid hm
      have HS := Lib.hid hstep
      clear hstep hI hTr hc hb8
      have s0 := hm.rs.cell 0 (by omega)
      have s1 := hm.rs.cell 1 (by omega)
      have s2 := hm.rs.cell 2 (by omega)
      have s3 := hm.rs.cell 3 (by omega)
      have s4 := hm.rs.cell 4 (by omega)
      have s5 := hm.rs.cell 5 (by omega)
      have s6 := hm.rs.cell 6 (by omega)
      have s7 := hm.rs.cell 7 (by omega)
      simp only [St8.lst, List.getD_cons_zero, List.getD_cons_succ] at s0 s1 s2 s3 s4 s5 s6 s7
      clear hm
      go_wp2_with fail
      refine KM.out.mono ?_
      rintro e1 w1 ⟨rfl, hb1⟩
      have hm1 := HM.out.on hb1
      generalize hT8 : S.mix Bf = T at HS ⊢
      clear hT8
      have HP := Lib.hid (hm1.put T)
      clear s0 s1 s2 s3 s4 s5 s6 s7 HM KM hb1
      have s0 := hm1.rs.cell 0 (by omega)
      have s1 := hm1.rs.cell 1 (by omega)
      have s2 := hm1.rs.cell 2 (by omega)
      have s3 := hm1.rs.cell 3 (by omega)
      have s4 := hm1.rs.cell 4 (by omega)
      have s5 := hm1.rs.cell 5 (by omega)
      have s6 := hm1.rs.cell 6 (by omega)
      have s7 := hm1.rs.cell 7 (by omega)
      have f0 := hm1.rs.free 0
      have f1 := hm1.rs.free 1
      have f2 := hm1.rs.free 2
      have f3 := hm1.rs.free 3
      have f4 := hm1.rs.free 4
      have f5 := hm1.rs.free 5
      have f6 := hm1.rs.free 6
      have f7 := hm1.rs.free 7
      clear hm1
      by_cases hk : k = 64
      · go_wp2_with fail
        exact ⟨⟨e, i + 1, _, _, _, rfl, rfl, by omega, Lib.hid (HS.out _ _ HP.out (.inl (by omega)))⟩, by cases e <;> simp [msr] <;> omega⟩
      · go_wp2_with fail
        exact ⟨⟨e, i + 1, _, _, _, rfl, rfl, by omega, Lib.hid (HS.out _ _ HP.out (.inr rfl))⟩, by cases e <;> simp [msr] <;> omega⟩
    · cases e with
      | false =>
        obtain ⟨hi, hl, hm64, hm, hrd⟩ := hI.out.rest (k := k) (by omega) HC.out
        by_cases h2 : 64 < n + 9
        · have KE := Lib.hid (end_two hm.rt hrd (by omega) xs.length (by omega))
          have HM := Lib.hid hm
          have HI := Lib.hid hi
          have H64 := Lib.hid hm64
          clear hI hl hrd hm hi hm64
          go_wp2_with fail
          refine KE.out.mono ?_
          rintro e1 w1 ⟨rfl, ht, hk⟩
          have hm1 := HM.out.chgT ht hk
          rw [HI.out] at hm1
          have hm64 := H64.out
          have HN : Hid (Inv xs b off w true 0 128 (some ⟨w.heap.size + 1 + 1, 0, none⟩) w1) := Inv.tail (by rw [if_pos (by omega)]; exact hm1) (by rw [if_pos (by omega)])
          clear ht hk hm1 KE HM HI hm64 H64
          go_wp2_with fail
          exact ⟨⟨true, 0, _, _, _, rfl, rfl, by omega, HN⟩, by simp [msr] <;> omega⟩
        · have KE := Lib.hid (end_one hm.rt hrd (by omega) xs.length (by omega))
          have HM := Lib.hid hm
          have HI := Lib.hid hi
          have H64 := Lib.hid hm64
          clear hI hl hrd hm hi hm64
          go_wp2_with fail
          refine KE.out.mono ?_
          rintro e1 w1 ⟨rfl, ht, hk⟩
          have hm1 := HM.out.chgT ht hk
          rw [HI.out] at hm1
          have hm64 := H64.out
          have HN : Hid (Inv xs b off w true 0 64 (some ⟨w.heap.size + 1 + 1, 0, none⟩) w1) := Inv.tail (by rw [if_neg (by omega)]; exact hm1) (by rw [if_neg (by omega)])
          clear ht hk hm1 KE HM HI hm64 H64
          go_wp2_with fail
          exact ⟨⟨true, 0, _, _, _, rfl, rfl, by omega, HN⟩, by simp [msr] <;> omega⟩
      | true =>
        obtain ⟨F, hm⟩ := hI.out.done (by omega)
        have HM := Lib.hid hm
        have s0 := hm.rs.cell 0 (by omega)
        have s1 := hm.rs.cell 1 (by omega)
        have s2 := hm.rs.cell 2 (by omega)
        have s3 := hm.rs.cell 3 (by omega)
        have s4 := hm.rs.cell 4 (by omega)
        have s5 := hm.rs.cell 5 (by omega)
        have s6 := hm.rs.cell 6 (by omega)
        have s7 := hm.rs.cell 7 (by omega)
        simp only [St8.lst, List.getD_cons_zero, List.getD_cons_succ] at s0 s1 s2 s3 s4 s5 s6 s7
        have hsz := hm.rt.lt
        have hsz1 := hm.rs.lt
        have hsz0 := hm.rr.lt
        clear hm hI
        generalize hS : shaSt xs (nbk xs.length) = S at *
        have HSS : Hid (sha xs = S.out) := by unfold sha; rw [hS]; exact rfl
        clear hS
        go_wp2_with fail
        have hr0 : RwK .u8 (wr.alloc (.cells (hc zero32).toArray 36)) wr.heap.size 32 36 (fun i => zero32.getD i 0) := RwK.newL .u8 wr zero32 36
        have R0 := Lib.hid hr0
        have K0 := Lib.hid (Chg.refl (wr.alloc (.cells (hc zero32).toArray 36)) [wr.heap.size])
        clear hr0 s0 s1 s2 s3 s4 s5 s6 s7
        refine wp_loop_rounds 9 ?_
        rw [rounds_succ]
        go_wp2_with fail
        refine (put32_any R0.out (off := 0) (len := 32) (cap := 32) (by omega) (by omega) _).mono ?_
        rintro e1 x0 ⟨rfl, hr, hk⟩
        have R1 := Lib.hid hr
        have K1 := Lib.hid (K0.out.trans hk (fun _ h _ => h))
        clear hr hk R0 K0
        go_wp2_with fail
        rw [rounds_succ]
        go_wp2_with fail
        refine (put32_any R1.out (off := 4) (len := 28) (cap := 28) (by omega) (by omega) _).mono ?_
        rintro e1 x1 ⟨rfl, hr, hk⟩
        have R2 := Lib.hid hr
        have K2 := Lib.hid (K1.out.trans hk (fun _ h _ => h))
        clear hr hk R1 K1
        go_wp2_with fail
        rw [rounds_succ]
        go_wp2_with fail
        refine (put32_any R2.out (off := 8) (len := 24) (cap := 24) (by omega) (by omega) _).mono ?_
        rintro e1 x2 ⟨rfl, hr, hk⟩
        have R3 := Lib.hid hr
        have K3 := Lib.hid (K2.out.trans hk (fun _ h _ => h))
        clear hr hk R2 K2
        go_wp2_with fail
        rw [rounds_succ]
        go_wp2_with fail
        refine (put32_any R3.out (off := 12) (len := 20) (cap := 20) (by omega) (by omega) _).mono ?_
        rintro e1 x3 ⟨rfl, hr, hk⟩
        have R4 := Lib.hid hr
        have K4 := Lib.hid (K3.out.trans hk (fun _ h _ => h))
        clear hr hk R3 K3
        go_wp2_with fail
        rw [rounds_succ]
        go_wp2_with fail
        refine (put32_any R4.out (off := 16) (len := 16) (cap := 16) (by omega) (by omega) _).mono ?_
        rintro e1 x4 ⟨rfl, hr, hk⟩
        have R5 := Lib.hid hr
        have K5 := Lib.hid (K4.out.trans hk (fun _ h _ => h))
        clear hr hk R4 K4
        go_wp2_with fail
        rw [rounds_succ]
        go_wp2_with fail
        refine (put32_any R5.out (off := 20) (len := 12) (cap := 12) (by omega) (by omega) _).mono ?_
        rintro e1 x5 ⟨rfl, hr, hk⟩
        have R6 := Lib.hid hr
        have K6 := Lib.hid (K5.out.trans hk (fun _ h _ => h))
        clear hr hk R5 K5
        go_wp2_with fail
        rw [rounds_succ]
        go_wp2_with fail
        refine (put32_any R6.out (off := 24) (len := 8) (cap := 8) (by omega) (by omega) _).mono ?_
        rintro e1 x6 ⟨rfl, hr, hk⟩
        have R7 := Lib.hid hr
        have K7 := Lib.hid (K6.out.trans hk (fun _ h _ => h))
        clear hr hk R6 K6
        go_wp2_with fail
        rw [rounds_succ]
        go_wp2_with fail
        refine (put32_any R7.out (off := 28) (len := 4) (cap := 4) (by omega) (by omega) _).mono ?_
        rintro e1 x7 ⟨rfl, hr, hk⟩
        have R8 := Lib.hid hr
        have K8 := Lib.hid (K7.out.trans hk (fun _ h _ => h))
        clear hr hk R7 K7
        go_wp2_with fail
        have hF : HashAt x7 wr.heap.size S.out := RwK.hash R8.out
        have hS32 : S.out.length = 32 := rfl
        have hrow := hF.row hS32
        have hm8 := HM.out.on (((Below.refl _ _).alloc (Nat.le_refl _) (.cells (hc zero32).toArray 36)).trans (K8.out.toBelow (B := wr.heap.size) (by simp) (by intro k hk; simp at hk; omega)))
        have hth := hm8.rr.there zero32_len
        have hput := (hm8.rr.put zero32_len hS32).row hS32
        have HB := Lib.hid (below_setCells' (B := w.heap.size) w.heap.size (Nat.le_refl _) (hc S.out) 0 hm8.below)
        clear hF hm8 R8 K8 HM
        rw [rounds_succ]
        go_wp2_with fail
        rw [Exit.noGoto_ret]
        refine bodyPost_ret (v := .agg (hc S.out).toArray) (by simp [results, Tryd.results73, go_sem, hput, hS32]) rfl ⟨by rw [HSS.out], HB.out⟩
end Go.Proofs.YtebeacejlkiglaaDoor
namespace Go.Proofs.YtebeacejlkiglaaDoor
open Go.RowKit
set_option maxRecDepth 100000

theorem HashAt.cell {w : World} {b : Nat} {F : List Int} (h : HashAt w b F) {i : Nat} (hi : i < F.length) : w.cell? ⟨b, i, none⟩ = some (.int .u8 (F.getD i 0)) := by
  rw [cell_of_row _ _ _ _ _ _ h]
  simp [hc, List.getD, hi]
theorem rdc_of_rw {w : World} {b : Nat} {T : TypeId} {xs : List Int} (h : RwK .u8 w b xs.length T (fun i => xs.getD i 0)) : RdC w (.slice (some ⟨b, 0, none⟩) xs.length xs.length) xs :=
  ⟨_, _, rfl, Nat.le_refl _, .inr ⟨b, 0, rfl, fun i hi => by rw [Nat.zero_add]; exact h.cell i hi⟩⟩
end Go.Proofs.YtebeacejlkiglaaDoor
namespace Go.Proofs.YtebeacejlkiglaaDoor
open Go.RowKit
set_option maxRecDepth 100000

theorem eight_any (w : World) (n : Int) : Calls Tryd.prog 79 #[.int .u64 n] w fun e w' => e = .returned (.slice (some ⟨w.heap.size, 0, none⟩) 8 8) ∧ w'.heap[w.heap.size]? = some (.cells (bc (be8 n)).toArray 5 (0, 0)) ∧ Below w.heap.size w w' := by
  go_enter Tryd.func79, Tryd.ntmps79
  go_wp2_with fail
  go_ret
  exact ⟨rfl, heap_alloc_new w _, (Below.refl _ _).alloc (Nat.le_refl _) _⟩
/-- How long the padded string is. -/
theorem padlen (L : Nat) : L + 9 + (64 - (L + 9) % 64) % 64 = 64 * nbk L := by
  unfold nbk
  split <;> omega

set_option maxHeartbeats 4000000 in
theorem pad_any {w : World} {v : Value} {xs : List Int} (hr : Rd w v xs) (hl : xs.length ≤ 100000000000000) :
    Calls Tryd.prog 77 #[v] w fun e w' => e = .returned (.slice (some ⟨w.heap.size, 0, none⟩) (64 * nbk xs.length) (64 * nbk xs.length)) ∧ RwK .u8 w' w.heap.size (64 * nbk xs.length) 5 (padF xs) ∧ Below w.heap.size w w' := by
  obtain ⟨i0, hi, hz0, hz1, hz2⟩ := info_parts Tryd.infoU8
  replace hi := Lib.hid hi
  replace hz0 := Lib.hid hz0
  replace hz1 := Lib.hid hz1
  replace hz2 := Lib.hid hz2
  have HR := Lib.hid hr
  obtain ⟨q, c, rfl⟩ := hr.len
  clear hr
  have hp := padlen xs.length
  have HP : Hid ((xs.length : Int) + 9 + (64 - ((xs.length : Int) + 9) % 64) % 64 = ((64 * nbk xs.length : Nat) : Int)) := by rw [← hp]; show _ = _; omega
  have hN9 : xs.length + 9 ≤ 64 * nbk xs.length := by omega
  have hNle : 64 * nbk xs.length ≤ 100000000000073 := by omega
  have HPF : Hid (∀ j, j < 64 * nbk xs.length → cpf (updK (cpf (fun _ => 0) 0 xs) xs.length 128) (64 * nbk xs.length - 8) (be8 (8 * (xs.length : Int))) j = padF xs j) := by
    intro j hj
    unfold padF
    by_cases h8 : 64 * nbk xs.length - 8 ≤ j
    · rw [cpf_in h8 (by simp; omega), if_neg (by omega), if_neg (by omega), if_neg (by omega)]
      congr 1
      omega
    · rw [cpf_out (Or.inl (by omega))]
      by_cases e : j = xs.length
      · subst e; rw [updK_same, if_neg (by omega), if_pos rfl]
      · rw [updK_ne _ _ e]
        by_cases hlt : j < xs.length
        · rw [cpf_in (by omega) (by omega), if_pos hlt]; rfl
        · rw [cpf_out (Or.inr (by omega)), if_neg hlt, if_neg e, if_pos (by omega)]
  clear hp
  have hQ : ((xs.length : Int) + 9 + -(((xs.length : Int) + 9) % 64) % 64) = ((64 * nbk xs.length : Nat) : Int) := by have := HP.out; omega
  generalize 64 * nbk xs.length = N at *
  go_enter Tryd.func77, Tryd.ntmps77
  go_wp2_with (refine wpList_make_full _ rfl _ _ _ rfl 0 _ _ _ _ Tryd.underlying42 hi.out hz0.out hz1.out _ _ _ _ N rfl rfl rfl rfl ?b1 ?b2 ?b3 ?_)
  case b1 => rw [hz2.out]; omega
  case b2 => unfold maxLen; omega
  case b3 => omega
  clear hQ
  intro w1 own1 grow1
  have hr1 : RwK .u8 w1 w.heap.size N 5 (fun _ => 0) := rw_of_made own1
  have B1 := Lib.hid (show Below w.heap.size w w1 from (Below.refl _ _).grown grow1 (Nat.le_refl _) (by intro k hk; simp at hk))
  have HR1 := Lib.hid (HR.out.on B1.out)
  have HPos : Hid (0 < xs.length → (some ⟨w.heap.size, 0, none⟩ : Option Addr) = some ⟨w.heap.size, 0, none⟩ ∧ ∃ ad, q = some ad ∧ ∀ j, j < xs.length → w1.cell? (ad.add j) = some (.int .u8 (xs.getD j 0))) := by
    intro h0
    obtain ⟨q', c', e, rfl | ⟨b', o', rfl, hcc⟩⟩ := HR1.out
    · simp at h0
    · simp only [Value.slice.injEq] at e
      exact ⟨rfl, _, e.1, fun j hj => by rw [addr_add]; exact hcc j hj⟩
  have R1 := Lib.hid hr1
  clear own1 grow1 hr1 HR HR1
  go_wp2_with (with_reducible refine wpList_copy_rw rfl _ _ _ _ rfl 5 Tryd.underlying42 Tryd.size_u8 _ _ _ _ _ _ rfl rfl R1.out 0 xs (Nat.min_eq_left (by omega)).symm HPos.out (by omega) ?_)
  intro w2 h2 k2
  have c2 := h2.cell xs.length (by omega)
  have f2 := h2.free xs.length
  have H2 := Lib.hid (h2.store (j := xs.length) (by omega) 128)
  have B2 := Lib.hid ((B1.out.trans (k2.toBelow (B := w.heap.size) B1.out.size (by intro k hk; simp at hk; omega))).setCell (p := ⟨w.heap.size, xs.length, none⟩) (Nat.le_refl _) (.int .u8 128))
  clear h2 k2 B1 R1 HPos
  have hn8 : (8 : Int) ≤ (N : Int) := by omega
  have kn8 : IntKind.i64.wrap ((N : Int) - 8) = (N : Int) - 8 := IntWalk.i64_in _ (by omega)
  have en8 : ((N : Int) - 8).toNat = N - 8 := by omega
  have hle8 : (N : Int) - 8 ≤ (N : Int) := by omega
  have hne8 : ¬ N = N - 8 := by omega
  have hsb8 : N - (N - 8) = 8 := by omega
  go_wp2_with fail
  generalize w2.setCell ⟨w.heap.size, xs.length, none⟩ (.int .u8 128) = wg at H2 B2 ⊢
  refine wp_region_held_drew (S := fun W => Below w.heap.size w W) (by kernel_rfl) (B2.out.drew) (fun h0 => ?_)
  refine wpAnyH_take (i := 0) (v := ?_) (by rw [List.getElem?_toArray]; rfl) (by kernel_rfl) (by kernel_rfl) (by kernel_rfl) (by exact fun _ _ _ h => h) (Or.inl ⟨by rfl, ?_⟩) h0 ?_
  rotate_left
  · intro W hW
    go_simp
    all_goals with_reducible rfl
  try simp only [Act.put, List.setIfInBounds_toArray, List.set_cons_zero, List.set_cons_succ]
  refine wpAnyH_take (i := 1) (v := ?_) (by rw [List.getElem?_toArray]; rfl) (by kernel_rfl) (by kernel_rfl) (by kernel_rfl) (by exact fun _ _ _ h => h) (Or.inl ⟨by rfl, ?_⟩) h0 ?_
  rotate_left
  · intro W hW
    go_simp
    all_goals with_reducible rfl
  try simp only [Act.put, List.setIfInBounds_toArray, List.set_cons_zero, List.set_cons_succ]
  refine wpAnyH_take (i := 2) (v := ?_) (by rw [List.getElem?_toArray]; rfl) (by kernel_rfl) (by kernel_rfl) (by kernel_rfl) (by exact fun _ _ _ h => h) (Or.inl ⟨by rfl, ?_⟩) h0 ?_
  rotate_left
  · intro W hW
    go_simp
    all_goals with_reducible rfl
  try simp only [Act.put, List.setIfInBounds_toArray, List.set_cons_zero, List.set_cons_succ]
  refine wpAnyH_take (i := 3) (v := ?_) (by rw [List.getElem?_toArray]; rfl) (by kernel_rfl) (by kernel_rfl) (by kernel_rfl) (by exact fun _ _ _ h => h) (Or.inl ⟨by rfl, ?_⟩) h0 ?_
  rotate_left
  · intro W hW
    go_simp
    all_goals with_reducible rfl
  try simp only [Act.put, List.setIfInBounds_toArray, List.set_cons_zero, List.set_cons_succ]
  refine wpAnyH_take (i := 4) (v := ?_) (by rw [List.getElem?_toArray]; rfl) (by kernel_rfl) (by kernel_rfl) (by kernel_rfl) (by exact fun _ _ _ h => h) (Or.inl ⟨by rfl, ?_⟩) h0 ?_
  rotate_left
  · intro W hW
    go_simp
    all_goals with_reducible rfl
  try simp only [Act.put, List.setIfInBounds_toArray, List.set_cons_zero, List.set_cons_succ]
  refine wpAnyH_take (i := 5) (v := ?_) (by rw [List.getElem?_toArray]; rfl) (by kernel_rfl) (by kernel_rfl) (by kernel_rfl) (by exact fun _ _ _ h => h) (Or.inl ⟨by rfl, ?_⟩) h0 ?_
  rotate_left
  · intro W hW
    go_simp
    all_goals with_reducible rfl
  try simp only [Act.put, List.setIfInBounds_toArray, List.set_cons_zero, List.set_cons_succ]
  refine wpAnyH_take (i := 6) (v := ?_) (by rw [List.getElem?_toArray]; rfl) (by kernel_rfl) (by kernel_rfl) (by kernel_rfl) (by exact fun _ _ _ h => h) (Or.inl ⟨by rfl, ?_⟩) h0 ?_
  rotate_left
  · intro W hW
    go_simp
    all_goals with_reducible rfl
  try simp only [Act.put, List.setIfInBounds_toArray, List.set_cons_zero, List.set_cons_succ]
  refine wpAnyH_take (i := 7) (v := ?_) (by rw [List.getElem?_toArray]; rfl) (by kernel_rfl) (by kernel_rfl) (by kernel_rfl) (by exact fun _ _ _ h => h) (Or.inl ⟨by rfl, ?_⟩) h0 ?_
  rotate_left
  · intro W hW
    go_simp
    all_goals with_reducible rfl
  try simp only [Act.put, List.setIfInBounds_toArray, List.set_cons_zero, List.set_cons_succ]
  refine wpAnyH_ready (rs := [8]) (by kernel_rfl) (by simp) ?_
  refine AllReadyH.cons (by rw [List.getElem?_toArray]; rfl) (fun K hK => ?_) AllReadyH.nil
  rw [if_pos (by rfl)]
  go_wp2_with fail
  refine (eight_any _ _).mono ?_
  rintro e w8 ⟨rfl, hb8, hbl8⟩
  have R8 := Lib.hid ((H2.out.drew).on hbl8)
  have HB8 : Hid (w8.heap[wg.heap.size]? = some (.cells (bc (be8 (8 * (xs.length : Int)))).toArray 5 (0, 0))) := hb8
  go_wp2_with fail
  refine hK.out _ _ (h0.trans (hbl8.mono h0.size)) (fun h8 => ?_)
  clear hK K
  try simp only [Act.put, List.setIfInBounds_toArray, List.set_cons_zero, List.set_cons_succ]
  refine wpAnyH_ready (rs := [9]) (by kernel_rfl) (by simp) ?_
  refine AllReadyH.cons (by rw [List.getElem?_toArray]; rfl) (fun K hK => ?_) AllReadyH.nil
  rw [if_pos (by rfl)]
  refine wp_copy_rw _ _ _ _ rfl 5 Tryd.underlying42 Tryd.size_u8 _ _ _ _ _ _ rfl rfl R8.out (N - 8) (be8 (8 * (xs.length : Int))) rfl (fun _ => ⟨rfl, _, rfl, fun j hj => by rw [addr_add, Nat.zero_add, Joins.cell_of_block HB8.out]; simp only [be8_len] at hj; rcases (by omega : j = 0 ∨ j = 1 ∨ j = 2 ∨ j = 3 ∨ j = 4 ∨ j = 5 ∨ j = 6 ∨ j = 7) with e | e | e | e | e | e | e | e <;> subst e <;> rfl⟩) (by rw [be8_len]; omega) ?_
  intro w9 h9 k9
  have H9 := Lib.hid h9
  have B9 := Lib.hid (h8.trans (k9.toBelow (B := w.heap.size) h8.size (by intro k hk; simp at hk; omega)))
  refine hK.out _ _ (B9.out) (fun h9x => ?_)
  clear hK K
  try simp only [Act.put, List.setIfInBounds_toArray, List.set_cons_zero, List.set_cons_succ]
  refine wpAnyH_done (by kernel_rfl) ?_ _
  go_wp2_with fail
  go_ret
  exact ⟨rfl, H9.out.same (fun j hj => HPF.out j hj), B9.out⟩
end Go.Proofs.YtebeacejlkiglaaDoor
