/-
  The walk of math/bits.Div64 at the divisor 10^19.
-/
import Derived.Test.YtnnlpiflalmmlaaWide3
import Derived.Test.YtnnlpiflalmmlaaShelf
namespace Go.Proofs.Ytnnlpiflalmmlaa
open Go.RowKit

/-- What two digits are, parted by 10^19. -/
def QR (hi lo : Int) (e : Ending) : Prop := ∃ q r : Int, e = .returned (.tuple #[.int .u64 q, .int .u64 r]) ∧ 0 ≤ q ∧ q < 18446744073709551616 ∧ 0 ≤ r ∧ r < 10000000000000000000 ∧ hi * 18446744073709551616 + lo = q * 10000000000000000000 + r

theorem bitLen19 : Lib.bitLen 10000000000000000000 = 64 := by decide +kernel

theorem lz_any (w : World) : Calls Try.prog 41 #[.int .u64 10000000000000000000] w fun e w' => e = .returned (.int .i64 0) ∧ w = w' := by
  refine (Try.bits_LeadingZeros64 10000000000000000000 w (by omega) (by omega)).mono fun e w' ⟨he, hw⟩ => ⟨?_, hw.symm⟩
  rw [he, show (10000000000000000000 : Int).toNat = 10000000000000000000 from rfl, bitLen19]
  rfl

theorem and19 : bits BinOp.and IntKind.u64 10000000000000000000 4294967295 = 2313682944 := by decide +kernel
theorem and_lo {lo : Int} (l0 : 0 ≤ lo) (l1 : lo < 18446744073709551616) : bits BinOp.and IntKind.u64 lo 4294967295 = lo % 4294967296 := by
  rw [u64_and lo 4294967295 l0 l1 (by omega) (by omega)]
  obtain ⟨n, rfl⟩ := Int.eq_ofNat_of_zero_le l0
  have h := Nat.and_two_pow_sub_one_eq_mod n 32
  simp only [Int.toNat_natCast, show (4294967295 : Int).toNat = 2 ^ 32 - 1 from rfl, h]
  rfl
theorem or_hi {hi lo : Int} (h0 : 0 ≤ hi) (h1 : hi < 10000000000000000000) (l0 : 0 ≤ lo) (l1 : lo < 18446744073709551616) : bits BinOp.or IntKind.u64 hi (lo / 18446744073709551616) = hi := by
  rw [show lo / 18446744073709551616 = 0 by omega, u64_or hi 0 h0 (by omega) (by omega) (by omega)]
  simp; omega

theorem q_hi {hi : Int} (h0 : 0 ≤ hi) (h1 : hi < 18446744073709551616) : IntKind.u64.wrap (hi.tdiv 2328306436) = hi / 2328306436 := by
  rw [Int.tdiv_eq_ediv_of_nonneg h0]
  simp only [IntKind.wrap, IntKind.signed, IntKind.bits]
  simp; omega
theorem r_hi {hi : Int} (_h0 : 0 ≤ hi) (_h1 : hi < 18446744073709551616) : IntKind.u64.wrap (hi - IntKind.u64.wrap (hi / 2328306436 * 2328306436)) = hi % 2328306436 := by
  simp only [IntKind.wrap, IntKind.signed, IntKind.bits]
  simp; omega
theorem next_hi {u un q : Int} (h0 : 0 ≤ u * 4294967296 + un - q * 10000000000000000000) (h1 : u * 4294967296 + un - q * 10000000000000000000 < 10000000000000000000) :
    IntKind.u64.wrap (IntKind.u64.wrap (IntKind.u64.wrap (u * 4294967296) + un) - IntKind.u64.wrap (q * 10000000000000000000)) = u * 4294967296 + un - q * 10000000000000000000 := by
  simp only [IntKind.wrap, IntKind.signed, IntKind.bits]
  simp; omega

theorem wrapQP {Q P : Int} (h0 : 0 ≤ Q) (h1 : Q < 4294967296) (h2 : 0 ≤ P) (h3 : P < 4294967296) : IntKind.u64.wrap (Q * 4294967296 + P) = Q * 4294967296 + P := by
  simp only [IntKind.wrap, IntKind.signed, IntKind.bits]
  simp; omega

set_option maxHeartbeats 2000000 in
theorem div64_any {hi lo : Int} (h0 : 0 ≤ hi) (h1 : hi < 10000000000000000000) (l0 : 0 ≤ lo) (l1 : lo < 18446744073709551616) (w : World) :
    Calls Try.prog 40 #[.int .u64 hi, .int .u64 lo, .int .u64 10000000000000000000] w fun e w' => QR hi lo e ∧ ∃ n, w' = w.drewN n := by
  by_cases hz : hi = 0
  · subst hz
    go_enter Try.func40, Try.ntmps40
    go_wp2_with fail
    go_quiet (fail)
    go_wp2_with fail
    go_ret2
    exact ⟨⟨_, _, rfl, by omega, by omega, by omega, by omega, by omega⟩, _, rfl⟩
  · go_enter Try.func40, Try.ntmps40
    go_wp2_with fail
    refine (lz_any _).mono ?_
    rintro e w1 ⟨rfl, rfl⟩
    go_wp2_with fail
    rw [or_hi h0 h1 l0 l1, and19, and_lo l0 l1, q_hi h0 (by omega), r_hi h0 (by omega)]
    have v0 : 0 ≤ lo / 4294967296 := by omega
    have v1 : lo / 4294967296 < 4294967296 := by omega
    have z0 : 0 ≤ lo % 4294967296 := by omega
    have z1 : lo % 4294967296 < 4294967296 := by omega
    have Hlo := Lib.hid (show lo = lo / 4294967296 * 4294967296 + lo % 4294967296 by omega)
    clear l0 l1
    generalize lo / 4294967296 = u1 at *
    generalize lo % 4294967296 = u0 at *
    obtain ⟨Q, q0, q1, q2, q3⟩ : ∃ Q : Int, Q * 10000000000000000000 ≤ hi * 4294967296 + u1 ∧ hi * 4294967296 + u1 < Q * 10000000000000000000 + 10000000000000000000 ∧ Q < 4294967296 ∧ 0 ≤ Q := ⟨(hi * 4294967296 + u1) / 10000000000000000000, by omega, by omega, by omega, by omega⟩
    go_loop [15, 16] (fun q r => ∃ a b : Int, q = .int .u64 a ∧ r = .int .u64 b ∧ 0 ≤ b ∧ b < 4294967296 ∧ Q ≤ a ∧ a < 8589934592 ∧ Hid (a * 2328306436 + b = hi)) (fun q _ => (intOf q).toNat)
    case atStart => exact ⟨_, _, rfl, rfl, by omega, by omega, by omega, by omega, by unfold Hid; omega⟩
    case round =>
      obtain ⟨a, b, rfl, rfl, b0, b1, ha0, ha1, hab⟩ := hrel
      by_cases c1 : 4294967296 ≤ a
      · go_wp2_with fail
        case roundEnd =>
          go_round
          case rel => have hab' := hab.out; exact ⟨a - 1, b + 2328306436, rfl, rfl, by omega, by assumption, by omega, by omega, by unfold Hid; omega⟩
          case measure => simp [intOf]; omega
        have hab' := hab.out
        have ea : a - 1 = Q := by omega
        rw [ea]
        clear hab' hab ha0 ha1 b0 b1 ea c1
        rw [next_hi (by omega) (by omega)]
        have R0 : 0 ≤ hi * 4294967296 + u1 - Q * 10000000000000000000 := by omega
        have R9 : hi * 4294967296 + u1 - Q * 10000000000000000000 < 10000000000000000000 := by omega
        have HR := Lib.hid (show hi * 4294967296 + u1 = Q * 10000000000000000000 + (hi * 4294967296 + u1 - Q * 10000000000000000000) by omega)
        clear q0 q1 h0 h1 hz v0 v1
        generalize hi * 4294967296 + u1 - Q * 10000000000000000000 = R at *
        rw [q_hi R0 (by omega), r_hi R0 (by omega)]
        obtain ⟨P, p0, p1, p2, p3⟩ : ∃ P : Int, P * 10000000000000000000 ≤ R * 4294967296 + u0 ∧ R * 4294967296 + u0 < P * 10000000000000000000 + 10000000000000000000 ∧ P < 4294967296 ∧ 0 ≤ P := ⟨(R * 4294967296 + u0) / 10000000000000000000, by omega, by omega, by omega, by omega⟩
        go_loop [16, 18] (fun r q => ∃ a b : Int, q = .int .u64 a ∧ r = .int .u64 b ∧ 0 ≤ b ∧ b < 4294967296 ∧ P ≤ a ∧ a < 8589934592 ∧ Hid (a * 2328306436 + b = R)) (fun _ q => (intOf q).toNat)
        case atStart => exact ⟨_, _, rfl, rfl, by omega, by omega, by omega, by omega, by unfold Hid; omega⟩
        case round =>
          obtain ⟨a, b, rfl, rfl, b0, b1, ha0, ha1, hab⟩ := hrel
          by_cases c1 : 4294967296 ≤ a
          · go_wp2_with fail
            case roundEnd =>
              go_round
              case rel => have hab' := hab.out; exact ⟨a - 1, b + 2328306436, rfl, rfl, by omega, by assumption, by omega, by omega, by unfold Hid; omega⟩
              case measure => simp [intOf]; omega
            have hab' := hab.out
            have ea : a - 1 = P := by omega
            rw [ea]
            clear hab' hab ha0 ha1 b0 b1 ea
            try rw [next_hi (by omega) (by omega)]
            go_ret2
            have HRo := HR.out
            have Hl := Hlo.out
            exact ⟨⟨Q * 4294967296 + P, R * 4294967296 + u0 - P * 10000000000000000000, by first | (simp; done) | (simp; exact wrapQP q3 q2 p3 p2), by omega, by omega, by omega, by omega, by omega⟩, 0, rfl⟩
          · by_cases c2 : 4294967296 * b + u0 < a * 2313682944
            · go_wp2_with fail
              case roundEnd =>
                go_round
                case rel => have hab' := hab.out; exact ⟨a - 1, b + 2328306436, rfl, rfl, by omega, by assumption, by omega, by omega, by unfold Hid; omega⟩
                case measure => simp [intOf]; omega
              have hab' := hab.out
              have ea : a - 1 = P := by omega
              rw [ea]
              clear hab' hab ha0 ha1 b0 b1 ea
              try rw [next_hi (by omega) (by omega)]
              go_ret2
              have HRo := HR.out
              have Hl := Hlo.out
              exact ⟨⟨Q * 4294967296 + P, R * 4294967296 + u0 - P * 10000000000000000000, by first | (simp; done) | (simp; exact wrapQP q3 q2 p3 p2), by omega, by omega, by omega, by omega, by omega⟩, 0, rfl⟩
            · go_wp2_with fail
              have hab' := hab.out
              have ea : a = P := by omega
              rw [ea]
              clear hab' hab ha0 ha1 b0 b1 ea
              try rw [next_hi (by omega) (by omega)]
              go_ret2
              have HRo := HR.out
              have Hl := Hlo.out
              exact ⟨⟨Q * 4294967296 + P, R * 4294967296 + u0 - P * 10000000000000000000, by first | (simp; done) | (simp; exact wrapQP q3 q2 p3 p2), by omega, by omega, by omega, by omega, by omega⟩, 0, rfl⟩
      · by_cases c2 : 4294967296 * b + u1 < a * 2313682944
        · go_wp2_with fail
          case roundEnd =>
            go_round
            case rel => have hab' := hab.out; exact ⟨a - 1, b + 2328306436, rfl, rfl, by omega, by assumption, by omega, by omega, by unfold Hid; omega⟩
            case measure => simp [intOf]; omega
          have hab' := hab.out
          have ea : a - 1 = Q := by omega
          rw [ea]
          clear hab' hab ha0 ha1 b0 b1 ea c1 c2
          rw [next_hi (by omega) (by omega)]
          have R0 : 0 ≤ hi * 4294967296 + u1 - Q * 10000000000000000000 := by omega
          have R9 : hi * 4294967296 + u1 - Q * 10000000000000000000 < 10000000000000000000 := by omega
          have HR := Lib.hid (show hi * 4294967296 + u1 = Q * 10000000000000000000 + (hi * 4294967296 + u1 - Q * 10000000000000000000) by omega)
          clear q0 q1 h0 h1 hz v0 v1
          generalize hi * 4294967296 + u1 - Q * 10000000000000000000 = R at *
          rw [q_hi R0 (by omega), r_hi R0 (by omega)]
          obtain ⟨P, p0, p1, p2, p3⟩ : ∃ P : Int, P * 10000000000000000000 ≤ R * 4294967296 + u0 ∧ R * 4294967296 + u0 < P * 10000000000000000000 + 10000000000000000000 ∧ P < 4294967296 ∧ 0 ≤ P := ⟨(R * 4294967296 + u0) / 10000000000000000000, by omega, by omega, by omega, by omega⟩
          go_loop [16, 18] (fun r q => ∃ a b : Int, q = .int .u64 a ∧ r = .int .u64 b ∧ 0 ≤ b ∧ b < 4294967296 ∧ P ≤ a ∧ a < 8589934592 ∧ Hid (a * 2328306436 + b = R)) (fun _ q => (intOf q).toNat)
          case atStart => exact ⟨_, _, rfl, rfl, by omega, by omega, by omega, by omega, by unfold Hid; omega⟩
          case round =>
            obtain ⟨a, b, rfl, rfl, b0, b1, ha0, ha1, hab⟩ := hrel
            by_cases c1 : 4294967296 ≤ a
            · go_wp2_with fail
              case roundEnd =>
                go_round
                case rel => have hab' := hab.out; exact ⟨a - 1, b + 2328306436, rfl, rfl, by omega, by assumption, by omega, by omega, by unfold Hid; omega⟩
                case measure => simp [intOf]; omega
              have hab' := hab.out
              have ea : a - 1 = P := by omega
              rw [ea]
              clear hab' hab ha0 ha1 b0 b1 ea
              try rw [next_hi (by omega) (by omega)]
              go_ret2
              have HRo := HR.out
              have Hl := Hlo.out
              exact ⟨⟨Q * 4294967296 + P, R * 4294967296 + u0 - P * 10000000000000000000, by first | (simp; done) | (simp; exact wrapQP q3 q2 p3 p2), by omega, by omega, by omega, by omega, by omega⟩, 0, rfl⟩
            · by_cases c2 : 4294967296 * b + u0 < a * 2313682944
              · go_wp2_with fail
                case roundEnd =>
                  go_round
                  case rel => have hab' := hab.out; exact ⟨a - 1, b + 2328306436, rfl, rfl, by omega, by assumption, by omega, by omega, by unfold Hid; omega⟩
                  case measure => simp [intOf]; omega
                have hab' := hab.out
                have ea : a - 1 = P := by omega
                rw [ea]
                clear hab' hab ha0 ha1 b0 b1 ea
                try rw [next_hi (by omega) (by omega)]
                go_ret2
                have HRo := HR.out
                have Hl := Hlo.out
                exact ⟨⟨Q * 4294967296 + P, R * 4294967296 + u0 - P * 10000000000000000000, by first | (simp; done) | (simp; exact wrapQP q3 q2 p3 p2), by omega, by omega, by omega, by omega, by omega⟩, 0, rfl⟩
              · go_wp2_with fail
                have hab' := hab.out
                have ea : a = P := by omega
                rw [ea]
                clear hab' hab ha0 ha1 b0 b1 ea
                try rw [next_hi (by omega) (by omega)]
                go_ret2
                have HRo := HR.out
                have Hl := Hlo.out
                exact ⟨⟨Q * 4294967296 + P, R * 4294967296 + u0 - P * 10000000000000000000, by first | (simp; done) | (simp; exact wrapQP q3 q2 p3 p2), by omega, by omega, by omega, by omega, by omega⟩, 0, rfl⟩
        · go_wp2_with fail
          have hab' := hab.out
          have ea : a = Q := by omega
          rw [ea]
          clear hab' hab ha0 ha1 b0 b1 ea c1 c2
          rw [next_hi (by omega) (by omega)]
          have R0 : 0 ≤ hi * 4294967296 + u1 - Q * 10000000000000000000 := by omega
          have R9 : hi * 4294967296 + u1 - Q * 10000000000000000000 < 10000000000000000000 := by omega
          have HR := Lib.hid (show hi * 4294967296 + u1 = Q * 10000000000000000000 + (hi * 4294967296 + u1 - Q * 10000000000000000000) by omega)
          clear q0 q1 h0 h1 hz v0 v1
          generalize hi * 4294967296 + u1 - Q * 10000000000000000000 = R at *
          rw [q_hi R0 (by omega), r_hi R0 (by omega)]
          obtain ⟨P, p0, p1, p2, p3⟩ : ∃ P : Int, P * 10000000000000000000 ≤ R * 4294967296 + u0 ∧ R * 4294967296 + u0 < P * 10000000000000000000 + 10000000000000000000 ∧ P < 4294967296 ∧ 0 ≤ P := ⟨(R * 4294967296 + u0) / 10000000000000000000, by omega, by omega, by omega, by omega⟩
          go_loop [16, 18] (fun r q => ∃ a b : Int, q = .int .u64 a ∧ r = .int .u64 b ∧ 0 ≤ b ∧ b < 4294967296 ∧ P ≤ a ∧ a < 8589934592 ∧ Hid (a * 2328306436 + b = R)) (fun _ q => (intOf q).toNat)
          case atStart => exact ⟨_, _, rfl, rfl, by omega, by omega, by omega, by omega, by unfold Hid; omega⟩
          case round =>
            obtain ⟨a, b, rfl, rfl, b0, b1, ha0, ha1, hab⟩ := hrel
            by_cases c1 : 4294967296 ≤ a
            · go_wp2_with fail
              case roundEnd =>
                go_round
                case rel => have hab' := hab.out; exact ⟨a - 1, b + 2328306436, rfl, rfl, by omega, by assumption, by omega, by omega, by unfold Hid; omega⟩
                case measure => simp [intOf]; omega
              have hab' := hab.out
              have ea : a - 1 = P := by omega
              rw [ea]
              clear hab' hab ha0 ha1 b0 b1 ea
              try rw [next_hi (by omega) (by omega)]
              go_ret2
              have HRo := HR.out
              have Hl := Hlo.out
              exact ⟨⟨Q * 4294967296 + P, R * 4294967296 + u0 - P * 10000000000000000000, by first | (simp; done) | (simp; exact wrapQP q3 q2 p3 p2), by omega, by omega, by omega, by omega, by omega⟩, 0, rfl⟩
            · by_cases c2 : 4294967296 * b + u0 < a * 2313682944
              · go_wp2_with fail
                case roundEnd =>
                  go_round
                  case rel => have hab' := hab.out; exact ⟨a - 1, b + 2328306436, rfl, rfl, by omega, by assumption, by omega, by omega, by unfold Hid; omega⟩
                  case measure => simp [intOf]; omega
                have hab' := hab.out
                have ea : a - 1 = P := by omega
                rw [ea]
                clear hab' hab ha0 ha1 b0 b1 ea
                try rw [next_hi (by omega) (by omega)]
                go_ret2
                have HRo := HR.out
                have Hl := Hlo.out
                exact ⟨⟨Q * 4294967296 + P, R * 4294967296 + u0 - P * 10000000000000000000, by first | (simp; done) | (simp; exact wrapQP q3 q2 p3 p2), by omega, by omega, by omega, by omega, by omega⟩, 0, rfl⟩
              · go_wp2_with fail
                have hab' := hab.out
                have ea : a = P := by omega
                rw [ea]
                clear hab' hab ha0 ha1 b0 b1 ea
                try rw [next_hi (by omega) (by omega)]
                go_ret2
                have HRo := HR.out
                have Hl := Hlo.out
                exact ⟨⟨Q * 4294967296 + P, R * 4294967296 + u0 - P * 10000000000000000000, by first | (simp; done) | (simp; exact wrapQP q3 q2 p3 p2), by omega, by omega, by omega, by omega, by omega⟩, 0, rfl⟩
end Go.Proofs.Ytnnlpiflalmmlaa
