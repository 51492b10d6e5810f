/-
  The writer's Uint, where there is room.
-/
import Derived.Test.YtigpiejjblfenaaCodecB
namespace Go.Proofs.Ytigpiejjblfenaa
set_option maxRecDepth 100000
open Go.RowKit

/-- The slice v holds these numbers, and lies in no block of S. -/
def RdN (w : World) (v : Value) (ns : List Int) (S : List Nat) : Prop := ∃ q c, v = .slice q ns.length c ∧ (ns = [] ∨ ∃ b off, q = some ⟨b, off, none⟩ ∧ b ∉ S ∧ ∀ i, i < ns.length → w.cell? ⟨b, off + i, none⟩ = some (.int .u64 (ns.getD i 0)))
theorem RdN.at {w : World} {q : Option Addr} {n c : Nat} {ns : List Int} {S : List Nat} (h : RdN w (.slice q n c) ns S) {i : Nat} (hi : i < ns.length) :
    ∃ b off, n = ns.length ∧ q = some ⟨b, off, none⟩ ∧ b ∉ S ∧ w.cell? ⟨b, off + i, none⟩ = some (.int .u64 (ns.getD i 0)) := by
  obtain ⟨q', c', e, rfl | ⟨b, off, rfl, hb, hx⟩⟩ := h
  · simp at hi
  · simp only [Value.slice.injEq] at e
    exact ⟨b, off, e.2.1, e.1, hb, hx i hi⟩
/-- The bytes of numbers. -/
def nums (ns : List Int) : List Int := ns.flatMap be8
theorem nums_take {ns : List Int} {i : Nat} (hi : i < ns.length) : nums (ns.take (i + 1)) = nums (ns.take i) ++ be8 (ns.getD i 0) := by
  have e : ns.take (i + 1) = ns.take i ++ [ns.getD i 0] := by
    rw [List.take_add_one]
    simp [List.getD, hi]
  rw [e, nums, List.flatMap_append]
  simp [nums]
theorem nums_len : ∀ ns : List Int, (nums ns).length = 8 * ns.length
  | [] => rfl
  | n :: ns => by
    have := nums_len ns
    simp only [nums, List.flatMap_cons, List.length_append, be8_len, List.length_cons] at this ⊢
    omega

theorem room_yes {w : World} {p : Nat} {v : Value} {xs : List Int} (h : WrV w p v xs) {n s : Nat} (hs : 0 < s) (hl : xs.length + n * s ≤ 65536) :
    Calls Try.prog 34 #[.pointer (some ⟨p, 0, none⟩), .int .i64 n, .int .i64 s] w fun e w' => e = .returned (.bool true) ∧ w' = w := by
  obtain ⟨c0, c1, -⟩ := h.cells
  obtain ⟨qv, kv, rfl⟩ := h.rd.len
  go_enter Try.func34, Try.ntmps34
  have hd : decide ((n : Int) ≤ (65536 - (xs.length : Int)) / (s : Int)) = true := by
    refine decide_eq_true (Int.le_ediv_of_mul_le (by omega) ?_)
    have : ((n * s : Nat) : Int) ≤ 65536 - (xs.length : Int) := by omega
    rw [Int.natCast_mul] at this
    exact this
  go_wp2_with fail
  go_ret
  exact ⟨rfl, rfl⟩

set_option maxHeartbeats 4000000 in
theorem WUint_fits {w : World} {p : Nat} {v : Value} {xs : List Int} (h : WrV w p v xs) {a : Value} {ns : List Int} (hN : RdN w a ns (p :: v.ownBlock.toList)) (hl : xs.length + 8 * ns.length ≤ 65536) :
    Calls Try.prog 25 #[.pointer (some ⟨p, 0, none⟩), a] w fun e w' => e = .returned (.int .i64 0) ∧ WSt w p v w' (xs ++ nums ns) := by
  have H0 : Hid (WSt w p v w (xs ++ nums (ns.take 0))) := by
    show WSt w p v w _
    exact (WSt.start h).of_eq (by simp [nums])
  obtain ⟨c0, c1, -⟩ := h.cells
  have hroom := Lib.hid (room_yes h (n := ns.length) (s := 8) (by omega) (by omega))
  obtain ⟨qv, kv, rfl⟩ := h.rd.len
  obtain ⟨q, c, rfl⟩ : ∃ q c, a = .slice q ns.length c := by obtain ⟨q, c, e, _⟩ := hN; exact ⟨q, c, e⟩
  have HN := Lib.hid hN
  have hn : ns.length ≤ 65536 := by omega
  clear h hN
  go_enter Try.func25, Try.ntmps25
  go_wp2_with fail
  refine (hroom.out).mono ?_
  rintro e wx ⟨rfl, rfl⟩
  go_wp2_with fail
  obtain ⟨w0, rfl⟩ : ∃ w0 : World, w0 = wx := ⟨_, rfl⟩
  clear c0 c1 hroom
  go_loopw [6, 26] (fun _ iv wr => ∃ i : Nat, iv = .int .i64 i ∧ i ≤ ns.length ∧ Hid (WSt w0 p (.slice qv xs.length kv) wr (xs ++ nums (ns.take i)))) (fun _ iv _ => ns.length - (intOf iv).toNat)
  case atStart => exact ⟨0, rfl, by omega, H0⟩
  case round =>
    clear H0
    obtain ⟨i, rfl, hil, hS⟩ := hrel
    by_cases hlt : i < ns.length
    · obtain ⟨q1, k1, h1, h2, h3⟩ := hS.out.own
      obtain ⟨b, off, -, rfl, hbS, hcw⟩ := HN.out.at hlt
      have hc : wr.cell? ⟨b, off + i, none⟩ = some (.int .u64 (ns.getD i 0)) := by
        rw [World.cell?_of_block (w := w0) (h2.block b (lt_of_cell hcw) hbS)]; exact hcw
      have hlen : (xs ++ nums (ns.take i)).length ≤ 65536 := by
        rw [List.length_append, nums_len, List.length_take]; omega
      have H1 := Lib.hid h1
      have H23 := Lib.hid (And.intro h2 h3)
      have HB := Lib.hid (nums_take hlt)
      clear h1 h2 h3 hS hcw hbS
      generalize hbb : ns.getD i 0 = x at hc HB
      go_wp2_with fail
      refine (putUint_any H1.out hlen _).mono ?_
      rintro e w3 ⟨rfl, hw3⟩
      have HS3 : Hid (WSt w0 p (.slice qv xs.length kv) w3 (xs ++ nums (ns.take i) ++ be8 x)) :=
        WSt.trans ⟨_, H1.out, H23.out.1, H23.out.2⟩ (fun u hu => by
          have e1 : u = .slice q1 (xs ++ nums (ns.take i)).length k1 := by
            have := hu.cells.2.1
            rw [H1.out.cells.2.1] at this
            exact (Option.some.inj this).symm
          rw [e1]
          exact hw3)
      clear hw3 H1 H23 hc
      go_wp2_with fail
      go_roundw
      case rel =>
        refine ⟨i + 1, by go_num, by omega, ?_⟩
        show WSt w0 p _ _ _
        rw [HB.out, ← List.append_assoc]
        exact HS3.out
      case measure => simp [intOf]; omega
    · obtain rfl : i = ns.length := by omega
      have hb := hS.out
      rw [List.take_length] at hb
      replace hS := Lib.hid hb
      clear hb
      go_wp2_with fail
      go_ret
      exact ⟨rfl, hS.out⟩
end Go.Proofs.Ytigpiejjblfenaa
