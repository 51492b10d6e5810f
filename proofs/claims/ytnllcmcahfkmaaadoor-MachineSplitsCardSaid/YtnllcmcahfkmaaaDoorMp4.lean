/-
  The machine's run.
-/
import Derived.Laws.EntriesVeiled
import Derived.Deep.RegionHeld3
import Derived.Test.YtnllcmcahfkmaaaDoorMp3
namespace Go.Proofs.YtnllcmcahfkmaaaDoor
set_option maxRecDepth 100000
open Go.RowKit

set_option maxHeartbeats 16000000 in
theorem run_any {a w : World} {p : Nat} {s : Ms} (h : McS a w p s) (ok : s.ok) {L : List Ins} {c : Cx} {qi : Option Addr} {ki bl : Nat} (lk : codeOk L = true) (lu : ∀ i ∈ L, i.ok) (hc : c.ok)
    (KA : ∀ W pc, Below a.heap.size a W → Calls Tryd.prog 15 #[.int .i64 pc, .pointer (some ⟨bl, 0, none⟩)] W fun e w' => e = .returned (atV L pc) ∧ Below W.heap.size W w')
    (hi : RdU a (.slice qi c.inp.length ki) c.inp) {M : Nat} (hm : M ≤ 1000000000000) :
    Calls Tryd.prog 14 #[.pointer (some ⟨p, 0, none⟩), cxV c qi ki, .int .i64 (M : Int), .func (.func 15) #[] #[.pointer (some ⟨bl, 0, none⟩)]] w fun e w' => e = .returned (.int .i64 ((goM L c M s).2 : Int)) ∧ McS a w' p (goM L c M s).1 ∧ Kept p w w' := by
  have HC := Lib.hid hc
  have LU := Lib.hid lu
  have LK := Lib.hid lk
  have HA := Lib.hid KA
  have HI := Lib.hid hi
  have b1 : Below w.heap.size w (w.alloc (.cells #[.int .u64 c.who, .int .u64 c.val, .slice qi c.inp.length ki] 39)) := (Below.refl _ _).alloc (Nat.le_refl _) _
  have S0 := Lib.hid (h.on b1)
  have K0 := Lib.hid (Kept.below (p := p) b1)
  have BC0 := Lib.hid (heap_alloc_new w (.cells #[.int .u64 c.who, .int .u64 c.val, .slice qi c.inp.length ki] 39))
  have hp := h.lt
  have HZ : Hid (p ≠ w.heap.size) := by show _ ≠ _; omega
  have OK0 := Lib.hid ok
  unfold cxV
  clear h ok lk lu hc KA hi b1 hp
  go_enter Tryd.func14, Tryd.ntmps14
  go_upto_region 1 with fail
  obtain ⟨bc, hbc⟩ : ∃ b, w.heap.size = b := ⟨_, rfl⟩
  rw [hbc] at BC0 HZ ⊢
  generalize w.alloc (.cells #[.int .u64 c.who, .int .u64 c.val, .slice qi c.inp.length ki] 39) = w0 at *
  clear hbc
  go_wp2_with fail
  go_step3
  go_wp2_with fail
  go_step3
  go_wp2_with fail
  go_loopw [9, 10, 11, 12, 13, 14, 15, 16] (fun nv v10 v11 v12 v13 v14 v15 v16 wr => ∃ (n : Nat) (t : Ms), nv = .int .i64 (n : Int) ∧ n ≤ M ∧ Hid (McS a wr p t) ∧ Hid t.ok ∧ Hid (wr.heap[bc]? = some (.cells #[.int .u64 c.who, .int .u64 c.val, .slice qi c.inp.length ki] 39 (0, 0))) ∧ Hid (Kept p w wr) ∧ Hid (goM L c M s = ((goM L c (M - n) t).1, (goM L c (M - n) t).2 + n))) (fun nv _ _ _ _ _ _ _ _ => M - (intOf nv).toNat)
  case atStart => exact ⟨0, s, rfl, by omega, S0, OK0, BC0, K0, rfl⟩
  case round =>
    clear S0 OK0 BC0 K0
    obtain ⟨n, t, rfl, hnM, hS, hok, hBC, hK, hG⟩ := hrel
    obtain ⟨q, k, h1, h2, -⟩ := hS.out.ex
    have C : McC wr p t q k := ⟨h1, h2⟩
    have c0 := C.c0
    have c2 := C.c2
    clear C h1 h2
    by_cases hs : t.st = 0
    · rw [hs] at c2
      by_cases hlt : n < M
      · have e2 : decide ((n : Int) < (M : Int)) = true := decide_eq_true (by omega)
        have wn : IntKind.i64.wrap ((n : Int) + 1) = ((n + 1 : Nat) : Int) := by
          rw [show (n : Int) + 1 = ((n + 1 : Nat) : Int) by omega]; exact IntWalk.i64_in _ (by omega)
        have GO := Lib.hid (goM_succ hs hlt hG.out)
        have OKN := Lib.hid (stepM_ok HC.out LU.out hok.out)
        have KA1 := Lib.hid (HA.out wr t.pc hS.out.below)
        by_cases hin : 0 ≤ t.pc ∧ t.pc < (L.length : Int)
        · obtain ⟨i, hi⟩ : ∃ i, L.getD t.pc.toNat ins0 = i := ⟨_, rfl⟩
          have ea : atV L t.pc = .tuple #[.agg #[.int .i64 i.op, .int .u64 i.a], .bool true] := by unfold atV; rw [if_pos hin, hi]
          rw [ea] at KA1
          have hT : stepM L c t = insM c i t := by unfold stepM; rw [if_pos hin, hi]
          obtain ⟨l128, lall⟩ := codeOk_in LK.out
          have him : i ∈ L := by
            have hl : t.pc.toNat < L.length := by omega
            have e : L.getD t.pc.toNat ins0 = L[t.pc.toNat] := by simp [List.getD, hl]
            rw [← hi, e]
            exact List.getElem_mem hl
          have iok := LU.out i him
          have iin := lall i him
          have pcl : t.pc < 128 := by omega
          have pc0 := hin.1
          clear hi ea lall him l128 hin
          obtain ⟨op, x⟩ := i
          obtain ⟨i3, i14⟩ := insOk_in iin
          clear iin
          have xlo : 0 ≤ x := iok.1
          have xhi : x < 18446744073709551616 := iok.2
          have EF := Lib.hid (fun (W : World) (h : McS a W p t) => pay_any h hok.out op x xlo i3)
          have OKP := Lib.hid (Ms.ok.pay (i := ⟨op, x⟩) hok.out)
          obtain ⟨E, hE⟩ : ∃ E, payE ⟨op, x⟩ t = E := ⟨_, rfl⟩
          obtain ⟨t1, ht1⟩ : ∃ t1, ({ t with gas := payG ⟨op, x⟩ t } : Ms) = t1 := ⟨_, rfl⟩
          have HT0 : Hid (stepM L c t = if E = 0 then doM c ⟨op, x⟩ t1 else t1.fail E) := by
            show _ = _
            rw [hT, ← hE, ← ht1]
            rfl
          have PE := Lib.hid (fun (h : E = 0) => payE_ok (hE.trans h))
          rw [hE, ht1] at EF
          rw [ht1] at OKP
          have T1s : Hid (t1.stk = t.stk) := by show _ = _; rw [← ht1]
          have T1p : Hid (t1.pc = t.pc) := by show _ = _; rw [← ht1]
          have PCR := Lib.hid (And.intro pc0 pcl)
          clear hT hE ht1 iok hs hG
          go_wp2_with fail
          refine KA1.out.mono ?_
          rintro e w1 ⟨rfl, b1⟩
          have b2 : Below wr.heap.size wr (w1.alloc (.cells #[.int .i64 op, .int .u64 x] 47)) := b1.alloc b1.size _
          have S2 := Lib.hid (hS.out.on b2)
          have KP := Kept.below (p := p) b2
          have BC2 := Lib.hid (KP _ _ _ _ hBC.out HZ.out.symm (by decide))
          have KW2 := Lib.hid (hK.out.trans KP)
          have KI2 := Lib.hid (heap_alloc_new w1 (.cells #[.int .i64 op, .int .u64 x] 47))
          have HBP : Hid (w1.heap.size ≠ p) := by show _ ≠ _; have := hS.out.lt; have := b1.size; omega
          clear b1 b2 KA1 c0 c2 KP hS hBC hK hok pc0 pcl
          go_upto_region 7 with fail
          obtain ⟨bi, hbi⟩ : ∃ b, w1.heap.size = b := ⟨_, rfl⟩
          rw [hbi] at KI2 HBP ⊢
          generalize w1.alloc (.cells #[.int .i64 op, .int .u64 x] 47) = w2 at *
          clear hbi
          have k0 := (Joins.cell_of_block KI2.out 0).trans (rfl : _ = some _)
          have k1 := (Joins.cell_of_block KI2.out 1).trans (rfl : _ = some _)
          go_wp2_with fail
          refine (EF.out w2 S2.out).mono ?_
          rintro e w3 ⟨rfl, S3, K3⟩
          have S3 := Lib.hid S3
          have BC3 := Lib.hid (K3 _ _ _ _ BC2.out HZ.out.symm (by decide))
          have KW3 := Lib.hid (KW2.out.trans K3)
          have KI3 := Lib.hid (K3 _ _ _ _ KI2.out HBP.out (by decide))
          clear k0 k1 K3 KI2 BC2 KW2 S2 EF
          by_cases hpe : E = 0
          rotate_left
          · have HT : Hid (stepM L c t = t1.fail E) := by show _ = _; rw [HT0.out, if_neg hpe]
            have eb : (E != 0) = true := by simp [hpe]
            have eb' : (E == 0) = false := by simp [hpe]
            clear hpe HT0
            go_wp2_with fail
            refine (fail_any S3.out E).mono ?_
            rintro e w4 ⟨rfl, S4, K4⟩
            have S4 := Lib.hid S4
            have BC4 := Lib.hid (K4 _ _ _ _ BC3.out HZ.out.symm (by decide))
            have KW4 := Lib.hid (KW3.out.trans K4)
            clear K4 KW3 BC3 S3 KI3
            go_wp2_with fail
            go_roundw
            case rel => exact ⟨n + 1, stepM L c t, by go_num, by omega, by rw [HT.out]; exact S4, OKN, BC4, KW4, GO⟩
            case measure => simp [intOf]; omega
          have HT : Hid (stepM L c t = doM c ⟨op, x⟩ t1) := by show _ = _; rw [HT0.out, if_pos hpe]
          obtain ⟨-, ne, mo⟩ := PE.out hpe
          rw [← T1s.out] at ne mo
          subst hpe
          clear HT0 PE T1s
          have lt1 := OKP.out.len
          have pcr := PCR.out
          rw [← T1p.out] at pcr
          have wpc : IntKind.i64.wrap (t1.pc + 1) = t1.pc + 1 := IntWalk.i64_in _ (by omega)
          have k0 := (Joins.cell_of_block KI3.out 0).trans (rfl : _ = some _)
          go_upto_region 10 with fail
          by_cases y0 : op = 0
          · subst y0
            as_aux_lemma =>
              have HT : Hid (stepM L c t = { t1 with st := 1 }) := HT.out.trans rfl
              obtain ⟨q3, k3, h31, h32, -⟩ := S3.out.ex
              have p2 := (McC.mk h31 h32).c2
              have u2 := (McC.mk h31 h32).un 2
              have S9 := Lib.hid (S3.out.st 1)
              have BC9 := Lib.hid (Kept.setCell p w3 2 (.int .i64 1) _ _ _ _ BC3.out HZ.out.symm (by decide))
              have KW9 := Lib.hid (KW3.out.trans (Kept.setCell p w3 2 (.int .i64 1)))
              clear h31 h32 S3 BC3 KW3
              go_wp2_with fail
              go_roundw
              case rel => exact ⟨n + 1, stepM L c t, by go_num, by omega, by rw [HT.out]; exact S9.out, OKN, BC9, KW9, GO⟩
              case measure => simp [intOf]; omega
          have x0 : (op == 0) = false := by simp [y0]
          by_cases y19 : op = 19
          · subst y19
            as_aux_lemma =>
              have HT : Hid (stepM L c t = t1.fail 38) := HT.out.trans rfl
              go_wp2_with fail
              refine (fail_any S3.out 38).mono ?_
              rintro e w4 ⟨rfl, S9, K4⟩
              have S9 := Lib.hid S9
              have BC9 := Lib.hid (K4 _ _ _ _ BC3.out HZ.out.symm (by decide))
              have KW9 := Lib.hid (KW3.out.trans K4)
              clear K4 KW3 BC3 S3 KI3 k0
              go_wp2_with fail
              go_roundw
              case rel => exact ⟨n + 1, stepM L c t, by go_num, by omega, by rw [HT.out]; exact S9.out, OKN, BC9, KW9, GO⟩
              case measure => simp [intOf]; omega
          have x19 : (op == 19) = false := by simp [y19]
          by_cases y12 : op = 12
          · subst y12
            as_aux_lemma =>
              have HT : Hid (stepM L c t = { t1 with pc := jmp x }) := HT.out.trans rfl
              have k1 := (Joins.cell_of_block KI3.out 1).trans (rfl : _ = some _)
              go_wp2_with fail
              refine (jump_any S3.out xlo).mono ?_
              rintro e w4 ⟨rfl, S9, K4⟩
              have S9 := Lib.hid S9
              have BC9 := Lib.hid (K4 _ _ _ _ BC3.out HZ.out.symm (by decide))
              have KW9 := Lib.hid (KW3.out.trans K4)
              clear K4 KW3 BC3 S3 KI3 k0 k1
              go_wp2_with fail
              go_roundw
              case rel => exact ⟨n + 1, stepM L c t, by go_num, by omega, by rw [HT.out]; exact S9.out, OKN, BC9, KW9, GO⟩
              case measure => simp [intOf]; omega
          have x12 : (op == 12) = false := by simp [y12]
          by_cases y13 : op = 13
          · subst y13
            as_aux_lemma =>
              have nz : 0 < t1.stk.length := by
                have : needsM ⟨13, x⟩ = 1 := rfl
                omega
              go_wp2_with fail
              refine (pop_any S3.out nz lt1).mono ?_
              rintro e w4 ⟨rfl, S8, K4⟩
              have S8 := Lib.hid S8
              have KI4 := Lib.hid (K4 _ _ _ _ KI3.out HBP.out (by decide))
              have BC8 := Lib.hid (K4 _ _ _ _ BC3.out HZ.out.symm (by decide))
              have KW8 := Lib.hid (KW3.out.trans K4)
              clear K4 KW3 BC3 S3 KI3 k0
              by_cases hz : t1.top = 0
              · have HT : Hid (stepM L c t = { t1 with stk := t1.stk.dropLast, pc := t1.pc + 1 }) := HT.out.trans (by show (if t1.top = 0 then _ else _) = _; rw [if_pos hz])
                have z1 : (t1.top != 0) = false := by simp [hz]
                clear hz
                obtain ⟨q8, k8, h81, h82, -⟩ := S8.out.ex
                have p0 := (McC.mk h81 h82).c0
                have u0 := (McC.mk h81 h82).un 0
                have S9 := Lib.hid (S8.out.pc (t1.pc + 1))
                have BC9 := Lib.hid (Kept.setCell p w4 0 (.int .i64 (t1.pc + 1)) _ _ _ _ BC8.out HZ.out.symm (by decide))
                have KW9 := Lib.hid (KW8.out.trans (Kept.setCell p w4 0 (.int .i64 (t1.pc + 1))))
                clear h81 h82
                go_wp2_with fail
                clear p0 u0 S8 BC8 KW8
                go_roundw
                case rel => exact ⟨n + 1, stepM L c t, by go_num, by omega, by rw [HT.out]; exact S9.out, OKN, BC9, KW9, GO⟩
                case measure => simp [intOf]; omega
              have HT : Hid (stepM L c t = { t1 with stk := t1.stk.dropLast, pc := jmp x }) := HT.out.trans (by show (if t1.top = 0 then _ else _) = _; rw [if_neg hz])
              have z1 : (t1.top != 0) = true := by simp [hz]
              clear hz
              have k1 := (Joins.cell_of_block KI4.out 1).trans (rfl : _ = some _)
              go_wp2_with fail
              refine (jump_any S8.out xlo).mono ?_
              rintro e w5 ⟨rfl, S9, K5⟩
              have S9 := Lib.hid S9
              have BC9 := Lib.hid (K5 _ _ _ _ BC8.out HZ.out.symm (by decide))
              have KW9 := Lib.hid (KW8.out.trans K5)
              clear K5 KW8 BC8 S8 KI4 k1
              go_wp2_with fail
              go_roundw
              case rel => exact ⟨n + 1, stepM L c t, by go_num, by omega, by rw [HT.out]; exact S9.out, OKN, BC9, KW9, GO⟩
              case measure => simp [intOf]; omega
          have x13 : (op == 13) = false := by simp [y13]
          by_cases y2 : op = 2
          · subst y2
            as_aux_lemma =>
              have HT : Hid (stepM L c t = { t1 with stk := t1.stk.dropLast, pc := t1.pc + 1 }) := HT.out.trans rfl
              have nz : 0 < t1.stk.length := by
                have : needsM ⟨2, x⟩ = 1 := rfl
                omega
              go_wp2_with fail
              refine (pop_any S3.out nz lt1).mono ?_
              rintro e w4 ⟨rfl, S8, K4⟩
              have S8 := Lib.hid S8
              have BC8 := Lib.hid (K4 _ _ _ _ BC3.out HZ.out.symm (by decide))
              have KW8 := Lib.hid (KW3.out.trans K4)
              clear K4 KW3 BC3 S3 KI3 k0
              obtain ⟨q8, k8, h81, h82, -⟩ := S8.out.ex
              have p0 := (McC.mk h81 h82).c0
              have u0 := (McC.mk h81 h82).un 0
              have S9 := Lib.hid (S8.out.pc (t1.pc + 1))
              have BC9 := Lib.hid (Kept.setCell p w4 0 (.int .i64 (t1.pc + 1)) _ _ _ _ BC8.out HZ.out.symm (by decide))
              have KW9 := Lib.hid (KW8.out.trans (Kept.setCell p w4 0 (.int .i64 (t1.pc + 1))))
              clear h81 h82
              go_wp2_with fail
              clear p0 u0 S8 BC8 KW8
              go_roundw
              case rel => exact ⟨n + 1, stepM L c t, by go_num, by omega, by rw [HT.out]; exact S9.out, OKN, BC9, KW9, GO⟩
              case measure => simp [intOf]; omega
          have x2 : (op == 2) = false := by simp [y2]
          by_cases y4 : op = 4
          · subst y4
            as_aux_lemma =>
              obtain ⟨m, rfl⟩ : ∃ m : Nat, x = m := ⟨x.toNat, by omega⟩
              have nz : needsM ⟨4, (m : Int)⟩ = (m : Int) + 2 := rfl
              obtain ⟨q3, k3, h31, h32, hf3⟩ := S3.out.ex
              have C3 := McC.mk h31 h32
              obtain ⟨ia, hia⟩ : ∃ i, t1.stk.length - 1 = i := ⟨_, rfl⟩
              obtain ⟨ib, hib⟩ : ∃ i, t1.stk.length - 2 - m = i := ⟨_, rfl⟩
              obtain ⟨g, rfl, ca, ua⟩ := C3.at (i := ia) (by omega)
              obtain ⟨g', hg', cb, ub⟩ := C3.at (i := ib) (by omega)
              obtain rfl : g = g' := by simpa using hg'
              have HT : Hid (stepM L c t = { t1 with stk := (t1.stk.set ia (t1.stk.getD ib 0)).set ib (t1.stk.getD ia 0), pc := t1.pc + 1 }) := HT.out.trans (by
                show ({ t1 with stk := (t1.stk.set (t1.stk.length - 1) (t1.stk.getD (t1.stk.length - 2 - m) 0)).set (t1.stk.length - 2 - m) (t1.stk.getD (t1.stk.length - 1) 0), pc := t1.pc + 1 } : Ms) = _
                rw [hia, hib])
              have w1 : IntKind.i64.wrap ((t1.stk.length : Int) - 1) = (ia : Int) := by rw [show (t1.stk.length : Int) - 1 = (ia : Int) by omega]; exact IntWalk.i64_in _ (by omega)
              have w2 : IntKind.i64.wrap ((t1.stk.length : Int) - 2) = (t1.stk.length : Int) - 2 := IntWalk.i64_in _ (by omega)
              have w3_ : IntKind.i64.wrap (m : Int) = (m : Int) := IntWalk.i64_in _ (by omega)
              have w4 : IntKind.i64.wrap ((t1.stk.length : Int) - 2 - (m : Int)) = (ib : Int) := by rw [show (t1.stk.length : Int) - 2 - (m : Int) = (ib : Int) by omega]; exact IntWalk.i64_in _ (by omega)
              have ila : ia < t1.stk.length := by omega
              have ilb : ib < t1.stk.length := by omega
              have c4 := C3.c4
              have k1 := (Joins.cell_of_block KI3.out 1).trans (rfl : _ = some _)
              obtain ⟨va, hva⟩ : ∃ v, t1.stk.getD ia 0 = v := ⟨_, rfl⟩
              obtain ⟨vb, hvb⟩ : ∃ v, t1.stk.getD ib 0 = v := ⟨_, rfl⟩
              rw [hva] at ca HT
              rw [hvb] at cb HT
              have HC3 := Lib.hid C3
              have HF3 := Lib.hid hf3
              have NE3 := Lib.hid (own_ne h32 h31 (by decide))
              clear hva hvb hia hib hg' h31 h32 C3 hf3 nz ne mo i3 i14 xlo xhi
              go_wp2_with fail
              go_quiet (fail)
              have dq : ∀ g i, (w3.drewN nq).cell? ⟨g, i, none⟩ = w3.cell? ⟨g, i, none⟩ := fun _ _ => rfl
              have SD := Lib.hid (S3.out.on (below_drewN8 (Below.refl _ _) nq))
              have BCD : Hid ((w3.drewN nq).heap[bc]? = some (.cells #[.int .u64 c.who, .int .u64 c.val, .slice qi c.inp.length ki] 39 (0, 0))) := BC3.out
              have KWD := Lib.hid (KW3.out.trans (Kept.below (below_drewN8 (Below.refl _ _) nq)))
              have CD : Hid (McC (w3.drewN nq) p t1 (some ⟨g, 0, none⟩) k3) := ⟨HC3.out.blk, HC3.out.own⟩
              have ca' : (w3.drewN nq).cell? ⟨g, ia, none⟩ = some (.int .u64 va) := ca
              have cb' : (w3.drewN nq).cell? ⟨g, ib, none⟩ = some (.int .u64 vb) := cb
              have ua' : (w3.drewN nq).frozen? ⟨g, ia, none⟩ = false := ua
              have ub' : (w3.drewN nq).frozen? ⟨g, ib, none⟩ = false := ub
              have c4' : (w3.drewN nq).cell? ⟨p, 4, none⟩ = some (.slice (some ⟨g, 0, none⟩) t1.stk.length k3) := c4
              clear ca cb ua ub c4 k0 k1 dq w1 w2 w3_ w4 S3 BC3 KW3 KI3 HC3
              generalize w3.drewN nq = w4 at *
              go_wp2_with fail
              have b45 : Below w4.heap.size w4 w4.drew := (Below.refl _ _).drew
              have SD5 := Lib.hid (SD.out.on b45)
              have BC5 : Hid (w4.drew.heap[bc]? = some (.cells #[.int .u64 c.who, .int .u64 c.val, .slice qi c.inp.length ki] 39 (0, 0))) := BCD.out
              have KW5 := Lib.hid (KWD.out.trans (Kept.below b45))
              have CD5 : Hid (McC w4.drew p t1 (some ⟨g, 0, none⟩) k3) := ⟨CD.out.blk, CD.out.own⟩
              have A5 : Hid (w4.drew.cell? ⟨g, ia, none⟩ = some (.int .u64 va)) := ca'
              have B5 : Hid (w4.drew.cell? ⟨g, ib, none⟩ = some (.int .u64 vb)) := cb'
              have V5 : Hid (w4.drew.frozen? ⟨g, ia, none⟩ = false) := ua'
              clear ca' cb' ua' ub' SD BCD KWD CD b45
              refine wp_region_held_drew (S := fun W => W.cell? ⟨p, 4, none⟩ = some (.slice (some ⟨g, 0, none⟩) t1.stk.length k3)) (by kernel_rfl) (c4') (fun h0 => ?_)
              generalize w4.drew = w5 at *
              clear c4'
              refine wpAnyH_take (i := 0) (v := ?_) (by rw [List.getElem?_toArray]; rfl) (by kernel_rfl) (by kernel_rfl) (by kernel_rfl) (by exact fun _ _ _ h => h) (Or.inl ⟨by rfl, ?_⟩) h0 ?_
              rotate_left
              · intro W hW
                go_simp
                all_goals with_reducible rfl
              try simp only [Act.put, List.setIfInBounds_toArray, List.set_cons_zero, List.set_cons_succ]
              refine wpAnyH_take (i := 1) (v := ?_) (by rw [List.getElem?_toArray]; rfl) (by kernel_rfl) (by kernel_rfl) (by kernel_rfl) (by exact fun _ _ _ h => h) (Or.inl ⟨by rfl, ?_⟩) h0 ?_
              rotate_left
              · intro W hW
                go_simp
                all_goals with_reducible rfl
              try simp only [Act.put, List.setIfInBounds_toArray, List.set_cons_zero, List.set_cons_succ]
              refine wpAnyH_take (i := 2) (v := ?_) (by rw [List.getElem?_toArray]; rfl) (by kernel_rfl) (by kernel_rfl) (by kernel_rfl) (by exact fun _ _ _ h => h) (Or.inl ⟨by rfl, ?_⟩) h0 ?_
              rotate_left
              · intro W hW
                go_simp
                all_goals with_reducible rfl
              try simp only [Act.put, List.setIfInBounds_toArray, List.set_cons_zero, List.set_cons_succ]
              refine wpAnyH_take (i := 3) (v := ?_) (by rw [List.getElem?_toArray]; rfl) (by kernel_rfl) (by kernel_rfl) (by kernel_rfl) (by exact fun _ _ _ h => h) (Or.inl ⟨by rfl, ?_⟩) h0 ?_
              rotate_left
              · intro W hW
                have c4x := hW
                go_simp
                all_goals with_reducible rfl
              try simp only [Act.put, List.setIfInBounds_toArray, List.set_cons_zero, List.set_cons_succ]
              refine wpAnyH_take (i := 4) (v := ?_) (by rw [List.getElem?_toArray]; rfl) (by kernel_rfl) (by kernel_rfl) (by kernel_rfl) (by exact fun _ _ _ h => h) (Or.inl ⟨by rfl, ?_⟩) h0 ?_
              rotate_left
              · intro W hW
                go_simp
                all_goals with_reducible rfl
              try simp only [Act.put, List.setIfInBounds_toArray, List.set_cons_zero, List.set_cons_succ]
              refine wpAnyH_take (i := 5) (v := ?_) (by rw [List.getElem?_toArray]; rfl) (by kernel_rfl) (by kernel_rfl) (by kernel_rfl) (by exact fun _ _ _ h => h) (Or.inl ⟨by rfl, ?_⟩) h0 ?_
              rotate_left
              · intro W hW
                go_simp
                all_goals with_reducible rfl
              try simp only [Act.put, List.setIfInBounds_toArray, List.set_cons_zero, List.set_cons_succ]
              refine wpAnyH_take (i := 6) (v := ?_) (by rw [List.getElem?_toArray]; rfl) (by kernel_rfl) (by kernel_rfl) (by kernel_rfl) (by exact fun _ _ _ h => h) (Or.inl ⟨by rfl, ?_⟩) h0 ?_
              rotate_left
              · intro W hW
                go_simp
                all_goals with_reducible rfl
              try simp only [Act.put, List.setIfInBounds_toArray, List.set_cons_zero, List.set_cons_succ]
              refine wpAnyH_take (i := 7) (v := ?_) (by rw [List.getElem?_toArray]; rfl) (by kernel_rfl) (by kernel_rfl) (by kernel_rfl) (by exact fun _ _ _ h => h) (Or.inl ⟨by rfl, ?_⟩) h0 ?_
              rotate_left
              · intro W hW
                go_simp
                all_goals with_reducible rfl
              try simp only [Act.put, List.setIfInBounds_toArray, List.set_cons_zero, List.set_cons_succ]
              refine wpAnyH_take (i := 8) (v := ?_) (by rw [List.getElem?_toArray]; rfl) (by kernel_rfl) (by kernel_rfl) (by kernel_rfl) (by exact fun _ _ _ h => h) (Or.inl ⟨by rfl, ?_⟩) h0 ?_
              rotate_left
              · intro W hW
                have c4x := hW
                go_simp
                all_goals with_reducible rfl
              try simp only [Act.put, List.setIfInBounds_toArray, List.set_cons_zero, List.set_cons_succ]
              refine wpAnyH_take (i := 9) (v := ?_) (by rw [List.getElem?_toArray]; rfl) (by kernel_rfl) (by kernel_rfl) (by kernel_rfl) (by exact fun _ _ _ h => h) (Or.inl ⟨by rfl, ?_⟩) h0 ?_
              rotate_left
              · intro W hW
                go_simp
                all_goals with_reducible rfl
              try simp only [Act.put, List.setIfInBounds_toArray, List.set_cons_zero, List.set_cons_succ]
              refine wpAnyH_take (i := 10) (v := ?_) (by rw [List.getElem?_toArray]; rfl) (by kernel_rfl) (by kernel_rfl) (by kernel_rfl) (by exact fun _ _ _ h => h) (Or.inl ⟨by rfl, ?_⟩) h0 ?_
              rotate_left
              · intro W hW
                go_simp
                all_goals with_reducible rfl
              try simp only [Act.put, List.setIfInBounds_toArray, List.set_cons_zero, List.set_cons_succ]
              refine wpAnyH_take (i := 11) (v := ?_) (by rw [List.getElem?_toArray]; rfl) (by kernel_rfl) (by kernel_rfl) (by kernel_rfl) (by exact fun _ _ _ h => h) (Or.inl ⟨by rfl, ?_⟩) h0 ?_
              rotate_left
              · intro W hW
                go_simp
                all_goals with_reducible rfl
              try simp only [Act.put, List.setIfInBounds_toArray, List.set_cons_zero, List.set_cons_succ]
              refine wpAnyH_take (i := 12) (v := ?_) (by rw [List.getElem?_toArray]; rfl) (by kernel_rfl) (by kernel_rfl) (by kernel_rfl) (by exact fun _ _ _ h => h) (Or.inl ⟨by rfl, ?_⟩) h0 ?_
              rotate_left
              · intro W hW
                go_simp
                all_goals with_reducible rfl
              try simp only [Act.put, List.setIfInBounds_toArray, List.set_cons_zero, List.set_cons_succ]
              refine wpAnyH_take (i := 13) (v := ?_) (by rw [List.getElem?_toArray]; rfl) (by kernel_rfl) (by kernel_rfl) (by kernel_rfl) (by exact fun _ _ _ h => h) (Or.inl ⟨by rfl, ?_⟩) h0 ?_
              rotate_left
              · intro W hW
                have c4x := hW
                go_simp
                all_goals with_reducible rfl
              try simp only [Act.put, List.setIfInBounds_toArray, List.set_cons_zero, List.set_cons_succ]
              refine wpAnyH_take (i := 14) (v := ?_) (by rw [List.getElem?_toArray]; rfl) (by kernel_rfl) (by kernel_rfl) (by kernel_rfl) (by exact fun _ _ _ h => h) (Or.inl ⟨by rfl, ?_⟩) h0 ?_
              rotate_left
              · intro W hW
                go_simp
                all_goals with_reducible rfl
              try simp only [Act.put, List.setIfInBounds_toArray, List.set_cons_zero, List.set_cons_succ]
              refine wpAnyH_take (i := 15) (v := ?_) (by rw [List.getElem?_toArray]; rfl) (by kernel_rfl) (by kernel_rfl) (by kernel_rfl) (by exact fun _ _ _ h => h) (Or.inl ⟨by rfl, ?_⟩) h0 ?_
              rotate_left
              · intro W hW
                go_simp
                all_goals with_reducible rfl
              try simp only [Act.put, List.setIfInBounds_toArray, List.set_cons_zero, List.set_cons_succ]
              refine wpAnyH_take (i := 17) (v := ?_) (by rw [List.getElem?_toArray]; rfl) (by kernel_rfl) (by kernel_rfl) (by kernel_rfl) (by exact fun _ _ _ h => h) (Or.inl ⟨by rfl, ?_⟩) h0 ?_
              rotate_left
              · intro W hW
                go_simp
                all_goals with_reducible rfl
              try simp only [Act.put, List.setIfInBounds_toArray, List.set_cons_zero, List.set_cons_succ]
              refine wpAnyH_take (i := 18) (v := ?_) (by rw [List.getElem?_toArray]; rfl) (by kernel_rfl) (by kernel_rfl) (by kernel_rfl) (by exact fun _ _ _ h => h) (Or.inl ⟨by rfl, ?_⟩) h0 ?_
              rotate_left
              · intro W hW
                go_simp
                all_goals with_reducible rfl
              try simp only [Act.put, List.setIfInBounds_toArray, List.set_cons_zero, List.set_cons_succ]
              refine wpAnyH_take (i := 19) (v := ?_) (by rw [List.getElem?_toArray]; rfl) (by kernel_rfl) (by kernel_rfl) (by kernel_rfl) (by exact fun _ _ _ h => h) (Or.inl ⟨by rfl, ?_⟩) h0 ?_
              rotate_left
              · intro W hW
                go_simp
                all_goals with_reducible rfl
              try simp only [Act.put, List.setIfInBounds_toArray, List.set_cons_zero, List.set_cons_succ]
              refine wpAnyH_take (i := 20) (v := ?_) (by rw [List.getElem?_toArray]; rfl) (by kernel_rfl) (by kernel_rfl) (by kernel_rfl) (by exact fun _ _ _ h => h) (Or.inl ⟨by rfl, ?_⟩) h0 ?_
              rotate_left
              · intro W hW
                have c4x := hW
                go_simp
                all_goals with_reducible rfl
              try simp only [Act.put, List.setIfInBounds_toArray, List.set_cons_zero, List.set_cons_succ]
              refine wpAnyH_take (i := 21) (v := ?_) (by rw [List.getElem?_toArray]; rfl) (by kernel_rfl) (by kernel_rfl) (by kernel_rfl) (by exact fun _ _ _ h => h) (Or.inl ⟨by rfl, ?_⟩) h0 ?_
              rotate_left
              · intro W hW
                go_simp
                all_goals with_reducible rfl
              try simp only [Act.put, List.setIfInBounds_toArray, List.set_cons_zero, List.set_cons_succ]
              refine wpAnyH_take (i := 22) (v := ?_) (by rw [List.getElem?_toArray]; rfl) (by kernel_rfl) (by kernel_rfl) (by kernel_rfl) (by exact fun _ _ _ h => h) (Or.inl ⟨by rfl, ?_⟩) h0 ?_
              rotate_left
              · intro W hW
                go_simp
                all_goals with_reducible rfl
              try simp only [Act.put, List.setIfInBounds_toArray, List.set_cons_zero, List.set_cons_succ]
              refine wpAnyH_ready (rs := [16, 23]) (by kernel_rfl) (by simp) ?_
              refine AllReadyH.cons (by rw [List.getElem?_toArray]; rfl) (fun K hK => ?_) (AllReadyH.cons (by rw [List.getElem?_toArray]; rfl) (fun K hK => ?_) (AllReadyH.nil))
              · rw [if_pos (by rfl)]
                have c1 := B5.out
                go_wp2_with fail
                clear c1
                refine hK.out _ _ h0 (fun h0 => ?_)
                clear hK K
                try simp only [Act.put, List.setIfInBounds_toArray, List.set_cons_zero, List.set_cons_succ]
                refine wpAnyH_ready (rs := [23]) (by kernel_rfl) (by simp) ?_
                refine AllReadyH.cons (by rw [List.getElem?_toArray]; rfl) (fun K hK => ?_) AllReadyH.nil
                rw [if_pos (by rfl)]
                have c1 := A5.out
                go_wp2_with fail
                clear c1
                refine hK.out _ _ h0 (fun h0 => ?_)
                clear hK K
                try simp only [Act.put, List.setIfInBounds_toArray, List.set_cons_zero, List.set_cons_succ]
                refine wpAnyH_take (i := 24) (v := ?_) (by rw [List.getElem?_toArray]; rfl) (by kernel_rfl) (by kernel_rfl) (by kernel_rfl) (by exact fun _ _ _ h => h) (Or.inl ⟨by rfl, ?_⟩) h0 ?_
                rotate_left
                · intro W hW
                  go_simp
                  all_goals with_reducible rfl
                try simp only [Act.put, List.setIfInBounds_toArray, List.set_cons_zero, List.set_cons_succ]
                refine wpAnyH_ready (rs := [25]) (by kernel_rfl) (by simp) ?_
                refine AllReadyH.cons (by rw [List.getElem?_toArray]; rfl) (fun K hK => ?_) AllReadyH.nil
                rw [if_pos (by rfl)]
                have c1 := A5.out
                have u1 := V5.out
                have SC := McS.setAt CD5.out HF3.out SD5.out.pl SD5.out.below ia vb
                have S6 := Lib.hid SC.1
                have C6 := Lib.hid SC.2
                have BC6 := Lib.hid (Kept.row (p := p) CD5.out.own ia (.int .u64 vb) _ _ _ _ BC5.out HZ.out.symm (by decide))
                have KW6 := Lib.hid (KW5.out.trans (Kept.row (p := p) CD5.out.own ia (.int .u64 vb)))
                have h6 : (w5.setCell ⟨g, ia, none⟩ (.int .u64 vb)).cell? ⟨p, 4, none⟩ = some (.slice (some ⟨g, 0, none⟩) t1.stk.length k3) := by
                  have := C6.out.c4
                  rw [List.length_set] at this
                  exact this
                clear SC
                go_wp2_with fail
                clear c1 u1
                generalize w5.setCell ⟨g, ia, none⟩ (.int .u64 vb) = w6 at *
                refine hK.out _ _ h6 (fun h0 => ?_)
                clear hK K
                try simp only [Act.put, List.setIfInBounds_toArray, List.set_cons_zero, List.set_cons_succ]
                refine wpAnyH_take (i := 26) (v := ?_) (by rw [List.getElem?_toArray]; rfl) (by kernel_rfl) (by kernel_rfl) (by kernel_rfl) (by exact fun _ _ _ h => h) (Or.inl ⟨by rfl, ?_⟩) h0 ?_
                rotate_left
                · intro W hW
                  go_simp
                  all_goals with_reducible rfl
                try simp only [Act.put, List.setIfInBounds_toArray, List.set_cons_zero, List.set_cons_succ]
                refine wpAnyH_ready (rs := [27]) (by kernel_rfl) (by simp) ?_
                refine AllReadyH.cons (by rw [List.getElem?_toArray]; rfl) (fun K hK => ?_) AllReadyH.nil
                rw [if_pos (by rfl)]
                obtain ⟨gx, hgx, c1, u1⟩ := C6.out.at (i := ib) (by rw [List.length_set]; exact ilb)
                obtain rfl : g = gx := by simpa using hgx
                have SC := McS.setAt C6.out (by rw [List.length_set]; exact HF3.out) S6.out.pl S6.out.below ib va
                have S8 := Lib.hid SC.1
                have BC8 := Lib.hid (Kept.row (p := p) C6.out.own ib (.int .u64 va) _ _ _ _ BC6.out HZ.out.symm (by decide))
                have KW8 := Lib.hid (KW6.out.trans (Kept.row (p := p) C6.out.own ib (.int .u64 va)))
                have h8 : (w6.setCell ⟨g, ib, none⟩ (.int .u64 va)).cell? ⟨p, 4, none⟩ = some (.slice (some ⟨g, 0, none⟩) t1.stk.length k3) := by
                  have := SC.2.c4
                  rw [List.length_set, List.length_set] at this
                  exact this
                clear SC hgx
                go_wp2_with fail
                clear c1 u1
                generalize w6.setCell ⟨g, ib, none⟩ (.int .u64 va) = w8 at *
                refine hK.out _ _ h8 (fun h0 => ?_)
                clear hK K
                try simp only [Act.put, List.setIfInBounds_toArray, List.set_cons_zero, List.set_cons_succ]
                refine wpAnyH_done (by kernel_rfl) ?_ _
                clear h0 S6 C6 BC6 KW6 SD5 CD5 BC5 KW5 A5 B5 V5
                obtain ⟨q8, k8, h81, h82, -⟩ := S8.out.ex
                have p0 := (McC.mk h81 h82).c0
                have u0 := (McC.mk h81 h82).un 0
                have S9 := Lib.hid (S8.out.pc (t1.pc + 1))
                have BC9 := Lib.hid (Kept.setCell p w8 0 (.int .i64 (t1.pc + 1)) _ _ _ _ BC8.out HZ.out.symm (by decide))
                have KW9 := Lib.hid (KW8.out.trans (Kept.setCell p w8 0 (.int .i64 (t1.pc + 1))))
                clear h81 h82
                go_wp2_with fail
                clear p0 u0 S8 BC8 KW8
                go_roundw
                case rel => exact ⟨n + 1, stepM L c t, by go_num, by omega, by rw [HT.out]; exact S9.out, OKN, BC9, KW9, GO⟩
                case measure => simp [intOf]; omega
              · rw [if_pos (by rfl)]
                have c1 := A5.out
                go_wp2_with fail
                clear c1
                refine hK.out _ _ h0 (fun h0 => ?_)
                clear hK K
                try simp only [Act.put, List.setIfInBounds_toArray, List.set_cons_zero, List.set_cons_succ]
                refine wpAnyH_ready (rs := [16]) (by kernel_rfl) (by simp) ?_
                refine AllReadyH.cons (by rw [List.getElem?_toArray]; rfl) (fun K hK => ?_) AllReadyH.nil
                rw [if_pos (by rfl)]
                have c1 := B5.out
                go_wp2_with fail
                clear c1
                refine hK.out _ _ h0 (fun h0 => ?_)
                clear hK K
                try simp only [Act.put, List.setIfInBounds_toArray, List.set_cons_zero, List.set_cons_succ]
                refine wpAnyH_take (i := 24) (v := ?_) (by rw [List.getElem?_toArray]; rfl) (by kernel_rfl) (by kernel_rfl) (by kernel_rfl) (by exact fun _ _ _ h => h) (Or.inl ⟨by rfl, ?_⟩) h0 ?_
                rotate_left
                · intro W hW
                  go_simp
                  all_goals with_reducible rfl
                try simp only [Act.put, List.setIfInBounds_toArray, List.set_cons_zero, List.set_cons_succ]
                refine wpAnyH_ready (rs := [25]) (by kernel_rfl) (by simp) ?_
                refine AllReadyH.cons (by rw [List.getElem?_toArray]; rfl) (fun K hK => ?_) AllReadyH.nil
                rw [if_pos (by rfl)]
                have c1 := A5.out
                have u1 := V5.out
                have SC := McS.setAt CD5.out HF3.out SD5.out.pl SD5.out.below ia vb
                have S6 := Lib.hid SC.1
                have C6 := Lib.hid SC.2
                have BC6 := Lib.hid (Kept.row (p := p) CD5.out.own ia (.int .u64 vb) _ _ _ _ BC5.out HZ.out.symm (by decide))
                have KW6 := Lib.hid (KW5.out.trans (Kept.row (p := p) CD5.out.own ia (.int .u64 vb)))
                have h6 : (w5.setCell ⟨g, ia, none⟩ (.int .u64 vb)).cell? ⟨p, 4, none⟩ = some (.slice (some ⟨g, 0, none⟩) t1.stk.length k3) := by
                  have := C6.out.c4
                  rw [List.length_set] at this
                  exact this
                clear SC
                go_wp2_with fail
                clear c1 u1
                generalize w5.setCell ⟨g, ia, none⟩ (.int .u64 vb) = w6 at *
                refine hK.out _ _ h6 (fun h0 => ?_)
                clear hK K
                try simp only [Act.put, List.setIfInBounds_toArray, List.set_cons_zero, List.set_cons_succ]
                refine wpAnyH_take (i := 26) (v := ?_) (by rw [List.getElem?_toArray]; rfl) (by kernel_rfl) (by kernel_rfl) (by kernel_rfl) (by exact fun _ _ _ h => h) (Or.inl ⟨by rfl, ?_⟩) h0 ?_
                rotate_left
                · intro W hW
                  go_simp
                  all_goals with_reducible rfl
                try simp only [Act.put, List.setIfInBounds_toArray, List.set_cons_zero, List.set_cons_succ]
                refine wpAnyH_ready (rs := [27]) (by kernel_rfl) (by simp) ?_
                refine AllReadyH.cons (by rw [List.getElem?_toArray]; rfl) (fun K hK => ?_) AllReadyH.nil
                rw [if_pos (by rfl)]
                obtain ⟨gx, hgx, c1, u1⟩ := C6.out.at (i := ib) (by rw [List.length_set]; exact ilb)
                obtain rfl : g = gx := by simpa using hgx
                have SC := McS.setAt C6.out (by rw [List.length_set]; exact HF3.out) S6.out.pl S6.out.below ib va
                have S8 := Lib.hid SC.1
                have BC8 := Lib.hid (Kept.row (p := p) C6.out.own ib (.int .u64 va) _ _ _ _ BC6.out HZ.out.symm (by decide))
                have KW8 := Lib.hid (KW6.out.trans (Kept.row (p := p) C6.out.own ib (.int .u64 va)))
                have h8 : (w6.setCell ⟨g, ib, none⟩ (.int .u64 va)).cell? ⟨p, 4, none⟩ = some (.slice (some ⟨g, 0, none⟩) t1.stk.length k3) := by
                  have := SC.2.c4
                  rw [List.length_set, List.length_set] at this
                  exact this
                clear SC hgx
                go_wp2_with fail
                clear c1 u1
                generalize w6.setCell ⟨g, ib, none⟩ (.int .u64 va) = w8 at *
                refine hK.out _ _ h8 (fun h0 => ?_)
                clear hK K
                try simp only [Act.put, List.setIfInBounds_toArray, List.set_cons_zero, List.set_cons_succ]
                refine wpAnyH_done (by kernel_rfl) ?_ _
                clear h0 S6 C6 BC6 KW6 SD5 CD5 BC5 KW5 A5 B5 V5
                obtain ⟨q8, k8, h81, h82, -⟩ := S8.out.ex
                have p0 := (McC.mk h81 h82).c0
                have u0 := (McC.mk h81 h82).un 0
                have S9 := Lib.hid (S8.out.pc (t1.pc + 1))
                have BC9 := Lib.hid (Kept.setCell p w8 0 (.int .i64 (t1.pc + 1)) _ _ _ _ BC8.out HZ.out.symm (by decide))
                have KW9 := Lib.hid (KW8.out.trans (Kept.setCell p w8 0 (.int .i64 (t1.pc + 1))))
                clear h81 h82
                go_wp2_with fail
                clear p0 u0 S8 BC8 KW8
                go_roundw
                case rel => exact ⟨n + 1, stepM L c t, by go_num, by omega, by rw [HT.out]; exact S9.out, OKN, BC9, KW9, GO⟩
                case measure => simp [intOf]; omega
          have x4 : (op == 4) = false := by simp [y4]
          by_cases y15 : op = 15
          · subst y15
            as_aux_lemma =>
              obtain ⟨m, rfl⟩ : ∃ m : Nat, x = m := ⟨x.toNat, by omega⟩
              have hm16 := i14 (.inr rfl)
              have nz : 0 < t1.stk.length := by
                have : needsM ⟨15, (m : Int)⟩ = 1 := rfl
                omega
              have W16 := OKP.out.w16
              have HT : Hid (stepM L c t = { t1 with stk := t1.stk.dropLast, wds := t1.wds.set m t1.top, pc := t1.pc + 1 }) := HT.out.trans rfl
              have ml : m < 16 := by omega
              have mli : (m : Int) < 16 := by omega
              have mw : m < t1.wds.length := by omega
              have b34 : Below w3.heap.size w3 w3.drew := (Below.refl _ _).drew
              have S4 := Lib.hid (S3.out.on b34)
              have BC4 : Hid (w3.drew.heap[bc]? = some (.cells #[.int .u64 c.who, .int .u64 c.val, .slice qi c.inp.length ki] 39 (0, 0))) := BC3.out
              have KW4 := Lib.hid (KW3.out.trans (Kept.below b34))
              have KI4 : w3.drew.heap[bi]? = some (.cells #[.int .i64 15, .int .u64 (m : Int)] 47 (0, 0)) := KI3.out
              clear ne mo i3 i14 xlo xhi hm16 W16 b34 S3 BC3 KW3 KI3
              go_wp2_with fail
              clear k0
              refine wp_region_held_drew (S := fun W => W.heap[bi]? = some (.cells #[.int .i64 15, .int .u64 (m : Int)] 47 (0, 0))) (by kernel_rfl) (KI4) (fun h0 => ?_)
              generalize w3.drew = w4 at *
              refine wpAnyH_take (i := 0) (v := ?_) (by rw [List.getElem?_toArray]; rfl) (by kernel_rfl) (by kernel_rfl) (by kernel_rfl) (by exact fun _ _ _ h => h) (Or.inl ⟨by rfl, ?_⟩) h0 ?_
              rotate_left
              · intro W hW
                go_simp
                all_goals with_reducible rfl
              try simp only [Act.put, List.setIfInBounds_toArray, List.set_cons_zero, List.set_cons_succ]
              refine wpAnyH_take (i := 1) (v := ?_) (by rw [List.getElem?_toArray]; rfl) (by kernel_rfl) (by kernel_rfl) (by kernel_rfl) (by exact fun _ _ _ h => h) (Or.inl ⟨by rfl, ?_⟩) h0 ?_
              rotate_left
              · intro W hW
                go_simp
                all_goals with_reducible rfl
              try simp only [Act.put, List.setIfInBounds_toArray, List.set_cons_zero, List.set_cons_succ]
              refine wpAnyH_take (i := 2) (v := ?_) (by rw [List.getElem?_toArray]; rfl) (by kernel_rfl) (by kernel_rfl) (by kernel_rfl) (by exact fun _ _ _ h => h) (Or.inl ⟨by rfl, ?_⟩) h0 ?_
              rotate_left
              · intro W hW
                have c1 := (Joins.cell_of_block hW 1).trans (rfl : _ = some _)
                go_simp
                all_goals with_reducible rfl
              try simp only [Act.put, List.setIfInBounds_toArray, List.set_cons_zero, List.set_cons_succ]
              refine wpAnyH_take (i := 3) (v := ?_) (by rw [List.getElem?_toArray]; rfl) (by kernel_rfl) (by kernel_rfl) (by kernel_rfl) (by exact fun _ _ _ h => h) (Or.inl ⟨by rfl, ?_⟩) h0 ?_
              rotate_left
              · intro W hW
                go_simp
                all_goals with_reducible rfl
              try simp only [Act.put, List.setIfInBounds_toArray, List.set_cons_zero, List.set_cons_succ]
              refine wpAnyH_take (i := 5) (v := ?_) (by rw [List.getElem?_toArray]; rfl) (by kernel_rfl) (by kernel_rfl) (by kernel_rfl) (by exact fun _ _ _ h => h) (Or.inl ⟨by rfl, ?_⟩) h0 ?_
              rotate_left
              · intro W hW
                go_simp
                all_goals with_reducible rfl
              try simp only [Act.put, List.setIfInBounds_toArray, List.set_cons_zero, List.set_cons_succ]
              refine wpAnyH_take (i := 6) (v := ?_) (by rw [List.getElem?_toArray]; rfl) (by kernel_rfl) (by kernel_rfl) (by kernel_rfl) (by exact fun _ _ _ h => h) (Or.inl ⟨by rfl, ?_⟩) h0 ?_
              rotate_left
              · intro W hW
                go_simp
                all_goals with_reducible rfl
              try simp only [Act.put, List.setIfInBounds_toArray, List.set_cons_zero, List.set_cons_succ]
              refine wpAnyH_ready (rs := [4]) (by kernel_rfl) (by simp) ?_
              refine AllReadyH.cons (by rw [List.getElem?_toArray]; rfl) (fun K hK => ?_) AllReadyH.nil
              rw [if_pos (by rfl)]
              go_wp2_with fail
              refine (pop_any S4.out nz lt1).mono ?_
              rintro e w5 ⟨rfl, S5, K5⟩
              have h5 := K5 _ _ _ _ h0 HBP.out (by decide)
              have S5 := Lib.hid S5
              have BC5 := Lib.hid (K5 _ _ _ _ BC4.out HZ.out.symm (by decide))
              have KW5 := Lib.hid (KW4.out.trans K5)
              clear K5
              go_wp2_with fail
              refine hK.out _ _ h5 (fun h0 => ?_)
              clear hK K
              try simp only [Act.put, List.setIfInBounds_toArray, List.set_cons_zero, List.set_cons_succ]
              refine wpAnyH_take (i := 7) (v := ?_) (by rw [List.getElem?_toArray]; rfl) (by kernel_rfl) (by kernel_rfl) (by kernel_rfl) (by exact fun _ _ _ h => h) (Or.inl ⟨by rfl, ?_⟩) h0 ?_
              rotate_left
              · intro W hW
                go_simp
                all_goals with_reducible rfl
              try simp only [Act.put, List.setIfInBounds_toArray, List.set_cons_zero, List.set_cons_succ]
              refine wpAnyH_ready (rs := [8]) (by kernel_rfl) (by simp) ?_
              refine AllReadyH.cons (by rw [List.getElem?_toArray]; rfl) (fun K hK => ?_) AllReadyH.nil
              rw [if_pos (by rfl)]
              obtain ⟨q5, k5, h51, h52, -⟩ := S5.out.ex
              have cx := (McC.mk h51 h52).word (i := m) mw
              have ux := (McC.mk h51 h52).un (5 + m)
              have S8 := Lib.hid (S5.out.word m t1.top)
              have BC8 := Lib.hid (Kept.setCell p w5 (5 + m) (.int .u64 t1.top) _ _ _ _ BC5.out HZ.out.symm (by decide))
              have KW8 := Lib.hid (KW5.out.trans (Kept.setCell p w5 (5 + m) (.int .u64 t1.top)))
              have h8 := Kept.setCell p w5 (5 + m) (.int .u64 t1.top) _ _ _ _ h0 HBP.out (by decide)
              clear h51 h52
              go_wp2_with fail
              clear cx ux
              generalize w5.setCell ⟨p, 5 + m, none⟩ (.int .u64 t1.top) = w8 at *
              refine hK.out _ _ h8 (fun h0 => ?_)
              clear hK K
              try simp only [Act.put, List.setIfInBounds_toArray, List.set_cons_zero, List.set_cons_succ]
              refine wpAnyH_done (by kernel_rfl) ?_ _
              clear h0 S5 BC5 KW5
              obtain ⟨q8, k8, h81, h82, -⟩ := S8.out.ex
              have p0 := (McC.mk h81 h82).c0
              have u0 := (McC.mk h81 h82).un 0
              have S9 := Lib.hid (S8.out.pc (t1.pc + 1))
              have BC9 := Lib.hid (Kept.setCell p w8 0 (.int .i64 (t1.pc + 1)) _ _ _ _ BC8.out HZ.out.symm (by decide))
              have KW9 := Lib.hid (KW8.out.trans (Kept.setCell p w8 0 (.int .i64 (t1.pc + 1))))
              clear h81 h82
              go_wp2_with fail
              clear p0 u0 S8 BC8 KW8
              go_roundw
              case rel => exact ⟨n + 1, stepM L c t, by go_num, by omega, by rw [HT.out]; exact S9.out, OKN, BC9, KW9, GO⟩
              case measure => simp [intOf]; omega
          have x15 : (op == 15) = false := by simp [y15]
          by_cases y1 : op = 1
          · subst y1
            as_aux_lemma =>
              have HT : Hid (stepM L c t = { t1 with stk := t1.stk ++ [fetchM c ⟨1, x⟩ t1], pc := t1.pc + 1 }) := HT.out.trans rfl
              have k1 := (Joins.cell_of_block KI3.out 1).trans (rfl : _ = some _)
              have j0 := (Joins.cell_of_block BC3.out 0).trans (rfl : _ = some _)
              have j1 := (Joins.cell_of_block BC3.out 1).trans (rfl : _ = some _)
              have j2 := (Joins.cell_of_block BC3.out 2).trans (rfl : _ = some _)
              have RI := Lib.hid (HI.out.on (by have h := S3.out.below; exact h))
              have FE := Lib.hid (fetch_any S3.out OKP.out RI.out HC.out.len 1 x ⟨xlo, xhi⟩ (by omega) (by omega))
              unfold cxV at FE
              obtain ⟨v, hv⟩ : ∃ v, fetchM c ⟨1, x⟩ t1 = v := ⟨_, rfl⟩
              rw [hv] at FE HT
              clear hv
              go_wp2_with fail
              refine FE.out.mono ?_
              rintro e w4 ⟨rfl, S4, K4⟩
              have S4 := Lib.hid S4
              have BC4 := Lib.hid (K4 _ _ _ _ BC3.out HZ.out.symm (by decide))
              have KW4 := Lib.hid (KW3.out.trans K4)
              clear K4 KW3 BC3 S3 KI3 k0 k1 j0 j1 j2 FE RI
              go_wp2_with fail
              refine (push_any S4.out lt1 v).mono ?_
              rintro e w5 ⟨rfl, S8, K5⟩
              have S8 := Lib.hid S8
              have BC8 := Lib.hid (K5 _ _ _ _ BC4.out HZ.out.symm (by decide))
              have KW8 := Lib.hid (KW4.out.trans K5)
              clear K5 KW4 BC4 S4
              obtain ⟨q8, k8, h81, h82, -⟩ := S8.out.ex
              have p0 := (McC.mk h81 h82).c0
              have u0 := (McC.mk h81 h82).un 0
              have S9 := Lib.hid (S8.out.pc (t1.pc + 1))
              have BC9 := Lib.hid (Kept.setCell p w5 0 (.int .i64 (t1.pc + 1)) _ _ _ _ BC8.out HZ.out.symm (by decide))
              have KW9 := Lib.hid (KW8.out.trans (Kept.setCell p w5 0 (.int .i64 (t1.pc + 1))))
              clear h81 h82
              go_wp2_with fail
              clear p0 u0 S8 BC8 KW8
              go_roundw
              case rel => exact ⟨n + 1, stepM L c t, by go_num, by omega, by rw [HT.out]; exact S9.out, OKN, BC9, KW9, GO⟩
              case measure => simp [intOf]; omega
          have x1 : (op == 1) = false := by simp [y1]
          by_cases y3 : op = 3
          · subst y3
            as_aux_lemma =>
              have HT : Hid (stepM L c t = { t1 with stk := t1.stk ++ [fetchM c ⟨3, x⟩ t1], pc := t1.pc + 1 }) := HT.out.trans rfl
              have k1 := (Joins.cell_of_block KI3.out 1).trans (rfl : _ = some _)
              have j0 := (Joins.cell_of_block BC3.out 0).trans (rfl : _ = some _)
              have j1 := (Joins.cell_of_block BC3.out 1).trans (rfl : _ = some _)
              have j2 := (Joins.cell_of_block BC3.out 2).trans (rfl : _ = some _)
              have RI := Lib.hid (HI.out.on (by have h := S3.out.below; exact h))
              have FE := Lib.hid (fetch_any S3.out OKP.out RI.out HC.out.len 3 x ⟨xlo, xhi⟩ (fun _ => by have : needsM ⟨3, x⟩ = x + 1 := rfl; omega) (by omega))
              unfold cxV at FE
              obtain ⟨v, hv⟩ : ∃ v, fetchM c ⟨3, x⟩ t1 = v := ⟨_, rfl⟩
              rw [hv] at FE HT
              clear hv
              go_wp2_with fail
              refine FE.out.mono ?_
              rintro e w4 ⟨rfl, S4, K4⟩
              have S4 := Lib.hid S4
              have BC4 := Lib.hid (K4 _ _ _ _ BC3.out HZ.out.symm (by decide))
              have KW4 := Lib.hid (KW3.out.trans K4)
              clear K4 KW3 BC3 S3 KI3 k0 k1 j0 j1 j2 FE RI
              go_wp2_with fail
              refine (push_any S4.out lt1 v).mono ?_
              rintro e w5 ⟨rfl, S8, K5⟩
              have S8 := Lib.hid S8
              have BC8 := Lib.hid (K5 _ _ _ _ BC4.out HZ.out.symm (by decide))
              have KW8 := Lib.hid (KW4.out.trans K5)
              clear K5 KW4 BC4 S4
              obtain ⟨q8, k8, h81, h82, -⟩ := S8.out.ex
              have p0 := (McC.mk h81 h82).c0
              have u0 := (McC.mk h81 h82).un 0
              have S9 := Lib.hid (S8.out.pc (t1.pc + 1))
              have BC9 := Lib.hid (Kept.setCell p w5 0 (.int .i64 (t1.pc + 1)) _ _ _ _ BC8.out HZ.out.symm (by decide))
              have KW9 := Lib.hid (KW8.out.trans (Kept.setCell p w5 0 (.int .i64 (t1.pc + 1))))
              clear h81 h82
              go_wp2_with fail
              clear p0 u0 S8 BC8 KW8
              go_roundw
              case rel => exact ⟨n + 1, stepM L c t, by go_num, by omega, by rw [HT.out]; exact S9.out, OKN, BC9, KW9, GO⟩
              case measure => simp [intOf]; omega
          have x3 : (op == 3) = false := by simp [y3]
          by_cases y14 : op = 14
          · subst y14
            as_aux_lemma =>
              have HT : Hid (stepM L c t = { t1 with stk := t1.stk ++ [fetchM c ⟨14, x⟩ t1], pc := t1.pc + 1 }) := HT.out.trans rfl
              have k1 := (Joins.cell_of_block KI3.out 1).trans (rfl : _ = some _)
              have j0 := (Joins.cell_of_block BC3.out 0).trans (rfl : _ = some _)
              have j1 := (Joins.cell_of_block BC3.out 1).trans (rfl : _ = some _)
              have j2 := (Joins.cell_of_block BC3.out 2).trans (rfl : _ = some _)
              have RI := Lib.hid (HI.out.on (by have h := S3.out.below; exact h))
              have FE := Lib.hid (fetch_any S3.out OKP.out RI.out HC.out.len 14 x ⟨xlo, xhi⟩ (by omega) (fun _ => i14 (.inl rfl)))
              unfold cxV at FE
              obtain ⟨v, hv⟩ : ∃ v, fetchM c ⟨14, x⟩ t1 = v := ⟨_, rfl⟩
              rw [hv] at FE HT
              clear hv
              go_wp2_with fail
              refine FE.out.mono ?_
              rintro e w4 ⟨rfl, S4, K4⟩
              have S4 := Lib.hid S4
              have BC4 := Lib.hid (K4 _ _ _ _ BC3.out HZ.out.symm (by decide))
              have KW4 := Lib.hid (KW3.out.trans K4)
              clear K4 KW3 BC3 S3 KI3 k0 k1 j0 j1 j2 FE RI
              go_wp2_with fail
              refine (push_any S4.out lt1 v).mono ?_
              rintro e w5 ⟨rfl, S8, K5⟩
              have S8 := Lib.hid S8
              have BC8 := Lib.hid (K5 _ _ _ _ BC4.out HZ.out.symm (by decide))
              have KW8 := Lib.hid (KW4.out.trans K5)
              clear K5 KW4 BC4 S4
              obtain ⟨q8, k8, h81, h82, -⟩ := S8.out.ex
              have p0 := (McC.mk h81 h82).c0
              have u0 := (McC.mk h81 h82).un 0
              have S9 := Lib.hid (S8.out.pc (t1.pc + 1))
              have BC9 := Lib.hid (Kept.setCell p w5 0 (.int .i64 (t1.pc + 1)) _ _ _ _ BC8.out HZ.out.symm (by decide))
              have KW9 := Lib.hid (KW8.out.trans (Kept.setCell p w5 0 (.int .i64 (t1.pc + 1))))
              clear h81 h82
              go_wp2_with fail
              clear p0 u0 S8 BC8 KW8
              go_roundw
              case rel => exact ⟨n + 1, stepM L c t, by go_num, by omega, by rw [HT.out]; exact S9.out, OKN, BC9, KW9, GO⟩
              case measure => simp [intOf]; omega
          have x14 : (op == 14) = false := by simp [y14]
          by_cases y16 : op = 16
          · subst y16
            as_aux_lemma =>
              have HT : Hid (stepM L c t = { t1 with stk := t1.stk ++ [fetchM c ⟨16, x⟩ t1], pc := t1.pc + 1 }) := HT.out.trans rfl
              have k1 := (Joins.cell_of_block KI3.out 1).trans (rfl : _ = some _)
              have j0 := (Joins.cell_of_block BC3.out 0).trans (rfl : _ = some _)
              have j1 := (Joins.cell_of_block BC3.out 1).trans (rfl : _ = some _)
              have j2 := (Joins.cell_of_block BC3.out 2).trans (rfl : _ = some _)
              have RI := Lib.hid (HI.out.on (by have h := S3.out.below; exact h))
              have FE := Lib.hid (fetch_any S3.out OKP.out RI.out HC.out.len 16 x ⟨xlo, xhi⟩ (by omega) (by omega))
              unfold cxV at FE
              obtain ⟨v, hv⟩ : ∃ v, fetchM c ⟨16, x⟩ t1 = v := ⟨_, rfl⟩
              rw [hv] at FE HT
              clear hv
              go_wp2_with fail
              refine FE.out.mono ?_
              rintro e w4 ⟨rfl, S4, K4⟩
              have S4 := Lib.hid S4
              have BC4 := Lib.hid (K4 _ _ _ _ BC3.out HZ.out.symm (by decide))
              have KW4 := Lib.hid (KW3.out.trans K4)
              clear K4 KW3 BC3 S3 KI3 k0 k1 j0 j1 j2 FE RI
              go_wp2_with fail
              refine (push_any S4.out lt1 v).mono ?_
              rintro e w5 ⟨rfl, S8, K5⟩
              have S8 := Lib.hid S8
              have BC8 := Lib.hid (K5 _ _ _ _ BC4.out HZ.out.symm (by decide))
              have KW8 := Lib.hid (KW4.out.trans K5)
              clear K5 KW4 BC4 S4
              obtain ⟨q8, k8, h81, h82, -⟩ := S8.out.ex
              have p0 := (McC.mk h81 h82).c0
              have u0 := (McC.mk h81 h82).un 0
              have S9 := Lib.hid (S8.out.pc (t1.pc + 1))
              have BC9 := Lib.hid (Kept.setCell p w5 0 (.int .i64 (t1.pc + 1)) _ _ _ _ BC8.out HZ.out.symm (by decide))
              have KW9 := Lib.hid (KW8.out.trans (Kept.setCell p w5 0 (.int .i64 (t1.pc + 1))))
              clear h81 h82
              go_wp2_with fail
              clear p0 u0 S8 BC8 KW8
              go_roundw
              case rel => exact ⟨n + 1, stepM L c t, by go_num, by omega, by rw [HT.out]; exact S9.out, OKN, BC9, KW9, GO⟩
              case measure => simp [intOf]; omega
          have x16 : (op == 16) = false := by simp [y16]
          by_cases y17 : op = 17
          · subst y17
            as_aux_lemma =>
              have HT : Hid (stepM L c t = { t1 with stk := t1.stk ++ [fetchM c ⟨17, x⟩ t1], pc := t1.pc + 1 }) := HT.out.trans rfl
              have k1 := (Joins.cell_of_block KI3.out 1).trans (rfl : _ = some _)
              have j0 := (Joins.cell_of_block BC3.out 0).trans (rfl : _ = some _)
              have j1 := (Joins.cell_of_block BC3.out 1).trans (rfl : _ = some _)
              have j2 := (Joins.cell_of_block BC3.out 2).trans (rfl : _ = some _)
              have RI := Lib.hid (HI.out.on (by have h := S3.out.below; exact h))
              have FE := Lib.hid (fetch_any S3.out OKP.out RI.out HC.out.len 17 x ⟨xlo, xhi⟩ (by omega) (by omega))
              unfold cxV at FE
              obtain ⟨v, hv⟩ : ∃ v, fetchM c ⟨17, x⟩ t1 = v := ⟨_, rfl⟩
              rw [hv] at FE HT
              clear hv
              go_wp2_with fail
              refine FE.out.mono ?_
              rintro e w4 ⟨rfl, S4, K4⟩
              have S4 := Lib.hid S4
              have BC4 := Lib.hid (K4 _ _ _ _ BC3.out HZ.out.symm (by decide))
              have KW4 := Lib.hid (KW3.out.trans K4)
              clear K4 KW3 BC3 S3 KI3 k0 k1 j0 j1 j2 FE RI
              go_wp2_with fail
              refine (push_any S4.out lt1 v).mono ?_
              rintro e w5 ⟨rfl, S8, K5⟩
              have S8 := Lib.hid S8
              have BC8 := Lib.hid (K5 _ _ _ _ BC4.out HZ.out.symm (by decide))
              have KW8 := Lib.hid (KW4.out.trans K5)
              clear K5 KW4 BC4 S4
              obtain ⟨q8, k8, h81, h82, -⟩ := S8.out.ex
              have p0 := (McC.mk h81 h82).c0
              have u0 := (McC.mk h81 h82).un 0
              have S9 := Lib.hid (S8.out.pc (t1.pc + 1))
              have BC9 := Lib.hid (Kept.setCell p w5 0 (.int .i64 (t1.pc + 1)) _ _ _ _ BC8.out HZ.out.symm (by decide))
              have KW9 := Lib.hid (KW8.out.trans (Kept.setCell p w5 0 (.int .i64 (t1.pc + 1))))
              clear h81 h82
              go_wp2_with fail
              clear p0 u0 S8 BC8 KW8
              go_roundw
              case rel => exact ⟨n + 1, stepM L c t, by go_num, by omega, by rw [HT.out]; exact S9.out, OKN, BC9, KW9, GO⟩
              case measure => simp [intOf]; omega
          have x17 : (op == 17) = false := by simp [y17]
          by_cases y18 : op = 18
          · subst y18
            as_aux_lemma =>
              have HT : Hid (stepM L c t = { t1 with stk := t1.stk ++ [fetchM c ⟨18, x⟩ t1], pc := t1.pc + 1 }) := HT.out.trans rfl
              have k1 := (Joins.cell_of_block KI3.out 1).trans (rfl : _ = some _)
              have j0 := (Joins.cell_of_block BC3.out 0).trans (rfl : _ = some _)
              have j1 := (Joins.cell_of_block BC3.out 1).trans (rfl : _ = some _)
              have j2 := (Joins.cell_of_block BC3.out 2).trans (rfl : _ = some _)
              have RI := Lib.hid (HI.out.on (by have h := S3.out.below; exact h))
              have FE := Lib.hid (fetch_any S3.out OKP.out RI.out HC.out.len 18 x ⟨xlo, xhi⟩ (by omega) (by omega))
              unfold cxV at FE
              obtain ⟨v, hv⟩ : ∃ v, fetchM c ⟨18, x⟩ t1 = v := ⟨_, rfl⟩
              rw [hv] at FE HT
              clear hv
              go_wp2_with fail
              refine FE.out.mono ?_
              rintro e w4 ⟨rfl, S4, K4⟩
              have S4 := Lib.hid S4
              have BC4 := Lib.hid (K4 _ _ _ _ BC3.out HZ.out.symm (by decide))
              have KW4 := Lib.hid (KW3.out.trans K4)
              clear K4 KW3 BC3 S3 KI3 k0 k1 j0 j1 j2 FE RI
              go_wp2_with fail
              refine (push_any S4.out lt1 v).mono ?_
              rintro e w5 ⟨rfl, S8, K5⟩
              have S8 := Lib.hid S8
              have BC8 := Lib.hid (K5 _ _ _ _ BC4.out HZ.out.symm (by decide))
              have KW8 := Lib.hid (KW4.out.trans K5)
              clear K5 KW4 BC4 S4
              obtain ⟨q8, k8, h81, h82, -⟩ := S8.out.ex
              have p0 := (McC.mk h81 h82).c0
              have u0 := (McC.mk h81 h82).un 0
              have S9 := Lib.hid (S8.out.pc (t1.pc + 1))
              have BC9 := Lib.hid (Kept.setCell p w5 0 (.int .i64 (t1.pc + 1)) _ _ _ _ BC8.out HZ.out.symm (by decide))
              have KW9 := Lib.hid (KW8.out.trans (Kept.setCell p w5 0 (.int .i64 (t1.pc + 1))))
              clear h81 h82
              go_wp2_with fail
              clear p0 u0 S8 BC8 KW8
              go_roundw
              case rel => exact ⟨n + 1, stepM L c t, by go_num, by omega, by rw [HT.out]; exact S9.out, OKN, BC9, KW9, GO⟩
              case measure => simp [intOf]; omega
          have x18 : (op == 18) = false := by simp [y18]
          as_aux_lemma =>
            have nz : needsM ⟨op, x⟩ = 2 := by
              unfold needsM
              simp only
              rw [if_neg (by omega), if_neg (by omega), if_neg (by omega), if_neg (by omega), if_neg (by omega)]
            have hd : doM c ⟨op, x⟩ t1 = if rkE op t1.top = 0 then { t1 with stk := t1.stk.dropLast.dropLast ++ [rkV op t1.snd t1.top], pc := t1.pc + 1 } else t1.fail (rkE op t1.top) := by
              unfold doM
              simp only
              rw [if_neg y0, if_neg y19, if_neg y12, if_neg y13, if_neg y2, if_neg y4, if_neg y15, if_neg (by omega)]
            have HT := Lib.hid (HT.out.trans hd)
            obtain ⟨q3, k3, h31, h32, hf3⟩ := S3.out.ex
            have C3 := McC.mk h31 h32
            obtain ⟨k, hk⟩ : ∃ k, t1.stk.length = k + 2 := ⟨t1.stk.length - 2, by omega⟩
            obtain ⟨g, rfl, ca, -⟩ := C3.at (i := k + 1) (by omega)
            obtain ⟨g', hg', cb, -⟩ := C3.at (i := k) (by omega)
            obtain rfl : g = g' := by simpa using hg'
            have c4 := C3.c4
            have ta := OKP.out.stk.get (k + 1)
            have tb := OKP.out.stk.get k
            have ea : t1.stk.getD (k + 1) 0 = t1.top := by unfold Ms.top; rw [hk]; rfl
            have eb : t1.stk.getD k 0 = t1.snd := by unfold Ms.snd; rw [hk]; rfl
            rw [ea] at ca ta
            rw [eb] at cb tb
            have hcap : k + 2 ≤ k3 ∧ k3 ≤ maxLen := by
              rcases h32.2 with ⟨e, _⟩ | ⟨g', cap, cur, e, _, hg, hnc, hcm, _⟩
              · simp at e
              · simp only [Value.slice.injEq, Option.some.injEq, Addr.mk.injEq, and_true, true_and] at e
                omega
            obtain ⟨hc1, hc2⟩ := hcap
            unfold maxLen at hc2
            have hdd : t1.stk.dropLast.dropLast = t1.stk.take k := by
              rw [List.dropLast_eq_take, List.dropLast_eq_take, List.take_take, List.length_take, hk]
              congr 1
              omega
            have hdl : t1.stk.dropLast.dropLast.length = k := by rw [hdd, List.length_take]; omega
            have O2 := own_cut h32 (m := k) (by omega)
            rw [wcs_take, ← hdd] at O2
            have FR3 := Lib.hid hf3
            have H31 := Lib.hid h31
            have O2 := Lib.hid O2
            have HDL := Lib.hid hdl
            rw [hk] at c4
            have w1 : IntKind.i64.wrap (((k + 2 : Nat) : Int) - 1) = ((k + 1 : Nat) : Int) := by rw [show ((k + 2 : Nat) : Int) - 1 = ((k + 1 : Nat) : Int) by omega]; exact IntWalk.i64_in _ (by omega)
            have w2 : IntKind.i64.wrap (((k + 2 : Nat) : Int) - 2) = (k : Int) := by rw [show ((k + 2 : Nat) : Int) - 2 = (k : Int) by omega]; exact IntWalk.i64_in _ (by omega)
            have w3_ : IntKind.i64.wrap ((k : Int) + 2 - 1) = ((k + 1 : Nat) : Int) := by rw [show (k : Int) + 2 - 1 = ((k + 1 : Nat) : Int) by omega]; exact IntWalk.i64_in _ (by omega)
            have w4 : IntKind.i64.wrap ((k : Int) + 2 - 2) = (k : Int) := by rw [show (k : Int) + 2 - 2 = (k : Int) by omega]; exact IntWalk.i64_in _ (by omega)
            have w5_ : IntKind.i64.wrap (k : Int) = (k : Int) := IntWalk.i64_in _ (by omega)
            have hkk : k ≤ k3 := by omega
            have hkl : k ≤ 1000000000000 := by omega
            have hkki : (k : Int) ≤ (k3 : Int) := by omega
            obtain ⟨ta_, hta⟩ : ∃ v, t1.top = v := ⟨_, rfl⟩
            obtain ⟨tb_, htb⟩ : ∃ v, t1.snd = v := ⟨_, rfl⟩
            rw [hta, htb] at HT
            rw [hta] at ca ta
            rw [htb] at cb tb
            clear hd nz ne mo i3 i14 xlo xhi hta htb ea eb hdd hdl hf3 h31 h32 C3 hg' hk
            clear y0 y19 y12 y13 y2 y4 y15 y1 y3 y14 y16 y17 y18
            go_wp2_with fail
            go_quiet (exact Calls.quiet_of_same (reckon_any _ _ _ _ tb ta))
            have S4 := Lib.hid (S3.out.on (below_drewN8 (Below.refl _ _) nq))
            have BC4 : Hid ((w3.drewN nq).heap[bc]? = some (.cells #[.int .u64 c.who, .int .u64 c.val, .slice qi c.inp.length ki] 39 (0, 0))) := BC3.out
            have KW4 := Lib.hid (KW3.out.trans (Kept.below (below_drewN8 (Below.refl _ _) nq)))
            have H41 : Hid ((w3.drewN nq).heap[p]? = some (.cells (stRow t1 (some ⟨g, 0, none⟩) k3).toArray 34 (0, 0))) := H31.out
            have O4 : Hid ((w3.drewN nq).ownsRow 0 23 1 (.slice (some ⟨g, 0, none⟩) k k3) k (wcs t1.stk.dropLast.dropLast)) := O2.out
            have c44 : Hid ((w3.drewN nq).cell? ⟨p, 4, none⟩ = some (.slice (some ⟨g, 0, none⟩) (k + 2) k3)) := c4
            clear S3 BC3 KW3 H31 O2 c4 ca cb ta tb k0 KI3 w1 w3_
            generalize w3.drewN nq = w4_ at *
            by_cases hz : rkE op ta_ = 0
            rotate_left
            · have HT : Hid (stepM L c t = t1.fail (rkE op ta_)) := by show _ = _; rw [HT.out, if_neg hz]
              have z1 : (rkE op ta_ != 0) = true := by simp [hz]
              clear hz
              obtain ⟨E, hE⟩ : ∃ E, rkE op ta_ = E := ⟨_, rfl⟩
              rw [hE] at HT z1 ⊢
              clear hE
              go_wp2_with fail
              refine (fail_any S4.out E).mono ?_
              rintro e w5 ⟨rfl, S9, K5⟩
              have S9 := Lib.hid S9
              have BC9 := Lib.hid (K5 _ _ _ _ BC4.out HZ.out.symm (by decide))
              have KW9 := Lib.hid (KW4.out.trans K5)
              clear K5 KW4 BC4 S4
              go_wp2_with fail
              go_roundw
              case rel => exact ⟨n + 1, stepM L c t, by go_num, by omega, by rw [HT.out]; exact S9.out, OKN, BC9, KW9, GO⟩
              case measure => simp [intOf]; omega
            have HT : Hid (stepM L c t = { t1 with stk := t1.stk.dropLast.dropLast ++ [rkV op tb_ ta_], pc := t1.pc + 1 }) := by show _ = _; rw [HT.out, if_pos hz]
            have z1 : (rkE op ta_ != 0) = false := by simp [hz]
            clear hz
            obtain ⟨E, hE⟩ : ∃ E, rkE op ta_ = E := ⟨_, rfl⟩
            obtain ⟨v, hv⟩ : ∃ E, rkV op tb_ ta_ = E := ⟨_, rfl⟩
            rw [hE] at z1 ⊢
            rw [hv] at HT ⊢
            clear hE hv
            go_wp2_with fail
            have b45 : Below w4_.heap.size w4_ w4_.drew := (Below.refl _ _).drew
            have S5 := Lib.hid (S4.out.on b45)
            have BC5 : Hid (w4_.drew.heap[bc]? = some (.cells #[.int .u64 c.who, .int .u64 c.val, .slice qi c.inp.length ki] 39 (0, 0))) := BC4.out
            have KW5 := Lib.hid (KW4.out.trans (Kept.below b45))
            have H51 : Hid (w4_.drew.heap[p]? = some (.cells (stRow t1 (some ⟨g, 0, none⟩) k3).toArray 34 (0, 0))) := H41.out
            have O5 : Hid (w4_.drew.ownsRow 0 23 1 (.slice (some ⟨g, 0, none⟩) k k3) k (wcs t1.stk.dropLast.dropLast)) := O4.out
            have C5 : Hid (w4_.drew.cell? ⟨p, 4, none⟩ = some (.slice (some ⟨g, 0, none⟩) (k + 2) k3)) := c44.out
            clear S4 BC4 KW4 H41 O4 c44 b45 z1
            refine wp_region_held_drew (S := fun _ => True) (by kernel_rfl) (trivial) (fun h0 => ?_)
            generalize w4_.drew = w5 at *
            refine wpAnyH_take (i := 0) (v := ?_) (by rw [List.getElem?_toArray]; rfl) (by kernel_rfl) (by kernel_rfl) (by kernel_rfl) (by exact fun _ _ _ h => h) (Or.inl ⟨by rfl, ?_⟩) h0 ?_
            rotate_left
            · intro W hW
              go_simp
              all_goals with_reducible rfl
            try simp only [Act.put, List.setIfInBounds_toArray, List.set_cons_zero, List.set_cons_succ]
            refine wpAnyH_take (i := 1) (v := ?_) (by rw [List.getElem?_toArray]; rfl) (by kernel_rfl) (by kernel_rfl) (by kernel_rfl) (by exact fun _ _ _ h => h) (Or.inl ⟨by rfl, ?_⟩) h0 ?_
            rotate_left
            · intro W hW
              go_simp
              all_goals with_reducible rfl
            try simp only [Act.put, List.setIfInBounds_toArray, List.set_cons_zero, List.set_cons_succ]
            refine wpAnyH_take (i := 2) (v := ?_) (by rw [List.getElem?_toArray]; rfl) (by kernel_rfl) (by kernel_rfl) (by kernel_rfl) (by exact fun _ _ _ h => h) (Or.inl ⟨by rfl, ?_⟩) h0 ?_
            rotate_left
            · intro W hW
              go_simp
              all_goals with_reducible rfl
            try simp only [Act.put, List.setIfInBounds_toArray, List.set_cons_zero, List.set_cons_succ]
            refine wpAnyH_take (i := 3) (v := ?_) (by rw [List.getElem?_toArray]; rfl) (by kernel_rfl) (by kernel_rfl) (by kernel_rfl) (by exact fun _ _ _ h => h) (Or.inl ⟨by rfl, ?_⟩) h0 ?_
            rotate_left
            · intro W hW
              go_simp
              all_goals with_reducible rfl
            try simp only [Act.put, List.setIfInBounds_toArray, List.set_cons_zero, List.set_cons_succ]
            refine wpAnyH_take (i := 5) (v := ?_) (by rw [List.getElem?_toArray]; rfl) (by kernel_rfl) (by kernel_rfl) (by kernel_rfl) (by exact fun _ _ _ h => h) (Or.inl ⟨by rfl, ?_⟩) h0 ?_
            rotate_left
            · intro W hW
              go_simp
              all_goals with_reducible rfl
            try simp only [Act.put, List.setIfInBounds_toArray, List.set_cons_zero, List.set_cons_succ]
            refine wpAnyH_take (i := 6) (v := ?_) (by rw [List.getElem?_toArray]; rfl) (by kernel_rfl) (by kernel_rfl) (by kernel_rfl) (by exact fun _ _ _ h => h) (Or.inl ⟨by rfl, ?_⟩) h0 ?_
            rotate_left
            · intro W hW
              go_simp
              all_goals with_reducible rfl
            try simp only [Act.put, List.setIfInBounds_toArray, List.set_cons_zero, List.set_cons_succ]
            refine wpAnyH_take (i := 7) (v := ?_) (by rw [List.getElem?_toArray]; rfl) (by kernel_rfl) (by kernel_rfl) (by kernel_rfl) (by exact fun _ _ _ h => h) (Or.inl ⟨by rfl, ?_⟩) h0 ?_
            rotate_left
            · intro W hW
              go_simp
              all_goals with_reducible rfl
            try simp only [Act.put, List.setIfInBounds_toArray, List.set_cons_zero, List.set_cons_succ]
            refine wpAnyH_ready (rs := [4, 8]) (by kernel_rfl) (by simp) ?_
            refine AllReadyH.cons (by rw [List.getElem?_toArray]; rfl) (fun K hK => ?_) (AllReadyH.cons (by rw [List.getElem?_toArray]; rfl) (fun K hK => ?_) (AllReadyH.nil))
            · rw [if_pos (by rfl)]
              have c1 := C5.out
              go_wp2_with fail
              clear c1
              refine hK.out _ _ trivial (fun h0 => ?_)
              clear hK K
              try simp only [Act.put, List.setIfInBounds_toArray, List.set_cons_zero, List.set_cons_succ]
              refine wpAnyH_ready (rs := [8]) (by kernel_rfl) (by simp) ?_
              refine AllReadyH.cons (by rw [List.getElem?_toArray]; rfl) (fun K hK => ?_) AllReadyH.nil
              rw [if_pos (by rfl)]
              have c1 := C5.out
              go_wp2_with fail
              clear c1
              refine hK.out _ _ trivial (fun h0 => ?_)
              clear hK K
              try simp only [Act.put, List.setIfInBounds_toArray, List.set_cons_zero, List.set_cons_succ]
              refine wpAnyH_take (i := 9) (v := ?_) (by rw [List.getElem?_toArray]; rfl) (by kernel_rfl) (by kernel_rfl) (by kernel_rfl) (by exact fun _ _ _ h => h) (Or.inl ⟨by rfl, ?_⟩) h0 ?_
              rotate_left
              · intro W hW
                go_simp
                all_goals with_reducible rfl
              try simp only [Act.put, List.setIfInBounds_toArray, List.set_cons_zero, List.set_cons_succ]
              refine wpAnyH_take (i := 10) (v := ?_) (by rw [List.getElem?_toArray]; rfl) (by kernel_rfl) (by kernel_rfl) (by kernel_rfl) (by exact fun _ _ _ h => h) (Or.inl ⟨by rfl, ?_⟩) h0 ?_
              rotate_left
              · intro W hW
                go_simp
                all_goals with_reducible rfl
              try simp only [Act.put, List.setIfInBounds_toArray, List.set_cons_zero, List.set_cons_succ]
              refine wpAnyH_take (i := 11) (v := ?_) (by rw [List.getElem?_toArray]; rfl) (by kernel_rfl) (by kernel_rfl) (by kernel_rfl) (by exact fun _ _ _ h => h) (Or.inl ⟨by rfl, ?_⟩) h0 ?_
              rotate_left
              · intro W hW
                go_simp
                all_goals with_reducible rfl
              try simp only [Act.put, List.setIfInBounds_toArray, List.set_cons_zero, List.set_cons_succ]
              refine wpAnyH_take (i := 12) (v := ?_) (by rw [List.getElem?_toArray]; rfl) (by kernel_rfl) (by kernel_rfl) (by kernel_rfl) (by exact fun _ _ _ h => h) (Or.inl ⟨by rfl, ?_⟩) h0 ?_
              rotate_left
              · intro W hW
                go_simp
                all_goals with_reducible rfl
              try simp only [Act.put, List.setIfInBounds_toArray, List.set_cons_zero, List.set_cons_succ]
              refine wpAnyH_take (i := 13) (v := ?_) (by rw [List.getElem?_toArray]; rfl) (by kernel_rfl) (by kernel_rfl) (by kernel_rfl) (by exact fun _ _ _ h => h) (Or.inl ⟨by rfl, ?_⟩) h0 ?_
              rotate_left
              · intro W hW
                go_simp
                all_goals with_reducible rfl
              try simp only [Act.put, List.setIfInBounds_toArray, List.set_cons_zero, List.set_cons_succ]
              refine wpAnyH_ready (rs := [14]) (by kernel_rfl) (by simp) ?_
              refine AllReadyH.cons (by rw [List.getElem?_toArray]; rfl) (fun K hK => ?_) AllReadyH.nil
              rw [if_pos (by rfl)]
              have c1 := C5.out
              have u1 := Joins.unfrozen_of_block H51.out 4
              have S6 := McS.stack (xs := t1.stk.dropLast.dropLast) (q' := some ⟨g, 0, none⟩) (c' := k3) H51.out S5.out.pl S5.out.below (by rw [HDL.out]; exact O5.out) (by rw [HDL.out]; intro y hy; exact FR3.out y (by simpa [Value.ownBlock] using hy))
              rw [HDL.out] at S6
              have S6 := Lib.hid S6
              have BC6 := Lib.hid (Kept.setCell p w5 4 (.slice (some ⟨g, 0, none⟩) k k3) _ _ _ _ BC5.out HZ.out.symm (by decide))
              have KW6 := Lib.hid (KW5.out.trans (Kept.setCell p w5 4 (.slice (some ⟨g, 0, none⟩) k k3)))
              go_wp2_with fail
              clear c1 u1
              generalize w5.setCell ⟨p, 4, none⟩ (.slice (some ⟨g, 0, none⟩) k k3) = w6 at *
              refine hK.out _ _ trivial (fun h0 => ?_)
              clear hK K
              try simp only [Act.put, List.setIfInBounds_toArray, List.set_cons_zero, List.set_cons_succ]
              refine wpAnyH_done (by kernel_rfl) ?_ _
              clear h0 S5 BC5 KW5 H51 O5 C5
              go_wp2_with fail
              refine (push_any S6.out (show t1.stk.dropLast.dropLast.length ≤ 1000000000000 by rw [HDL.out]; omega) v).mono ?_
              rintro e w7 ⟨rfl, S8, K7⟩
              have S8 := Lib.hid S8
              have BC8 := Lib.hid (K7 _ _ _ _ BC6.out HZ.out.symm (by decide))
              have KW8 := Lib.hid (KW6.out.trans K7)
              clear K7 KW6 BC6 S6
              obtain ⟨q8, k8, h81, h82, -⟩ := S8.out.ex
              have p0 := (McC.mk h81 h82).c0
              have u0 := (McC.mk h81 h82).un 0
              have S9 := Lib.hid (S8.out.pc (t1.pc + 1))
              have BC9 := Lib.hid (Kept.setCell p w7 0 (.int .i64 (t1.pc + 1)) _ _ _ _ BC8.out HZ.out.symm (by decide))
              have KW9 := Lib.hid (KW8.out.trans (Kept.setCell p w7 0 (.int .i64 (t1.pc + 1))))
              clear h81 h82
              go_wp2_with fail
              clear p0 u0 S8 BC8 KW8
              go_roundw
              case rel => exact ⟨n + 1, stepM L c t, by go_num, by omega, by rw [HT.out]; exact S9.out, OKN, BC9, KW9, GO⟩
              case measure => simp [intOf]; omega
            · rw [if_pos (by rfl)]
              have c1 := C5.out
              go_wp2_with fail
              clear c1
              refine hK.out _ _ trivial (fun h0 => ?_)
              clear hK K
              try simp only [Act.put, List.setIfInBounds_toArray, List.set_cons_zero, List.set_cons_succ]
              refine wpAnyH_take (i := 9) (v := ?_) (by rw [List.getElem?_toArray]; rfl) (by kernel_rfl) (by kernel_rfl) (by kernel_rfl) (by exact fun _ _ _ h => h) (Or.inl ⟨by rfl, ?_⟩) h0 ?_
              rotate_left
              · intro W hW
                go_simp
                all_goals with_reducible rfl
              try simp only [Act.put, List.setIfInBounds_toArray, List.set_cons_zero, List.set_cons_succ]
              refine wpAnyH_take (i := 10) (v := ?_) (by rw [List.getElem?_toArray]; rfl) (by kernel_rfl) (by kernel_rfl) (by kernel_rfl) (by exact fun _ _ _ h => h) (Or.inl ⟨by rfl, ?_⟩) h0 ?_
              rotate_left
              · intro W hW
                go_simp
                all_goals with_reducible rfl
              try simp only [Act.put, List.setIfInBounds_toArray, List.set_cons_zero, List.set_cons_succ]
              refine wpAnyH_ready (rs := [4]) (by kernel_rfl) (by simp) ?_
              refine AllReadyH.cons (by rw [List.getElem?_toArray]; rfl) (fun K hK => ?_) AllReadyH.nil
              rw [if_pos (by rfl)]
              have c1 := C5.out
              go_wp2_with fail
              clear c1
              refine hK.out _ _ trivial (fun h0 => ?_)
              clear hK K
              try simp only [Act.put, List.setIfInBounds_toArray, List.set_cons_zero, List.set_cons_succ]
              refine wpAnyH_take (i := 11) (v := ?_) (by rw [List.getElem?_toArray]; rfl) (by kernel_rfl) (by kernel_rfl) (by kernel_rfl) (by exact fun _ _ _ h => h) (Or.inl ⟨by rfl, ?_⟩) h0 ?_
              rotate_left
              · intro W hW
                go_simp
                all_goals with_reducible rfl
              try simp only [Act.put, List.setIfInBounds_toArray, List.set_cons_zero, List.set_cons_succ]
              refine wpAnyH_take (i := 12) (v := ?_) (by rw [List.getElem?_toArray]; rfl) (by kernel_rfl) (by kernel_rfl) (by kernel_rfl) (by exact fun _ _ _ h => h) (Or.inl ⟨by rfl, ?_⟩) h0 ?_
              rotate_left
              · intro W hW
                go_simp
                all_goals with_reducible rfl
              try simp only [Act.put, List.setIfInBounds_toArray, List.set_cons_zero, List.set_cons_succ]
              refine wpAnyH_take (i := 13) (v := ?_) (by rw [List.getElem?_toArray]; rfl) (by kernel_rfl) (by kernel_rfl) (by kernel_rfl) (by exact fun _ _ _ h => h) (Or.inl ⟨by rfl, ?_⟩) h0 ?_
              rotate_left
              · intro W hW
                go_simp
                all_goals with_reducible rfl
              try simp only [Act.put, List.setIfInBounds_toArray, List.set_cons_zero, List.set_cons_succ]
              refine wpAnyH_ready (rs := [14]) (by kernel_rfl) (by simp) ?_
              refine AllReadyH.cons (by rw [List.getElem?_toArray]; rfl) (fun K hK => ?_) AllReadyH.nil
              rw [if_pos (by rfl)]
              have c1 := C5.out
              have u1 := Joins.unfrozen_of_block H51.out 4
              have S6 := McS.stack (xs := t1.stk.dropLast.dropLast) (q' := some ⟨g, 0, none⟩) (c' := k3) H51.out S5.out.pl S5.out.below (by rw [HDL.out]; exact O5.out) (by rw [HDL.out]; intro y hy; exact FR3.out y (by simpa [Value.ownBlock] using hy))
              rw [HDL.out] at S6
              have S6 := Lib.hid S6
              have BC6 := Lib.hid (Kept.setCell p w5 4 (.slice (some ⟨g, 0, none⟩) k k3) _ _ _ _ BC5.out HZ.out.symm (by decide))
              have KW6 := Lib.hid (KW5.out.trans (Kept.setCell p w5 4 (.slice (some ⟨g, 0, none⟩) k k3)))
              go_wp2_with fail
              clear c1 u1
              generalize w5.setCell ⟨p, 4, none⟩ (.slice (some ⟨g, 0, none⟩) k k3) = w6 at *
              refine hK.out _ _ trivial (fun h0 => ?_)
              clear hK K
              try simp only [Act.put, List.setIfInBounds_toArray, List.set_cons_zero, List.set_cons_succ]
              refine wpAnyH_done (by kernel_rfl) ?_ _
              clear h0 S5 BC5 KW5 H51 O5 C5
              go_wp2_with fail
              refine (push_any S6.out (show t1.stk.dropLast.dropLast.length ≤ 1000000000000 by rw [HDL.out]; omega) v).mono ?_
              rintro e w7 ⟨rfl, S8, K7⟩
              have S8 := Lib.hid S8
              have BC8 := Lib.hid (K7 _ _ _ _ BC6.out HZ.out.symm (by decide))
              have KW8 := Lib.hid (KW6.out.trans K7)
              clear K7 KW6 BC6 S6
              obtain ⟨q8, k8, h81, h82, -⟩ := S8.out.ex
              have p0 := (McC.mk h81 h82).c0
              have u0 := (McC.mk h81 h82).un 0
              have S9 := Lib.hid (S8.out.pc (t1.pc + 1))
              have BC9 := Lib.hid (Kept.setCell p w7 0 (.int .i64 (t1.pc + 1)) _ _ _ _ BC8.out HZ.out.symm (by decide))
              have KW9 := Lib.hid (KW8.out.trans (Kept.setCell p w7 0 (.int .i64 (t1.pc + 1))))
              clear h81 h82
              go_wp2_with fail
              clear p0 u0 S8 BC8 KW8
              go_roundw
              case rel => exact ⟨n + 1, stepM L c t, by go_num, by omega, by rw [HT.out]; exact S9.out, OKN, BC9, KW9, GO⟩
              case measure => simp [intOf]; omega
        · have HT : Hid (stepM L c t = t.fail 37) := by show _ = _; unfold stepM; rw [if_neg hin]
          have ea : atV L t.pc = .tuple #[.agg #[.int .i64 0, .int .u64 0], .bool false] := by unfold atV; rw [if_neg hin]
          rw [ea] at KA1
          clear ea hin hs hG
          go_wp2_with fail
          refine KA1.out.mono ?_
          rintro e w1 ⟨rfl, b1⟩
          have b2 : Below wr.heap.size wr (w1.alloc (.cells #[.int .i64 0, .int .u64 0] 47)) := b1.alloc b1.size _
          have S2 := Lib.hid (hS.out.on b2)
          have KP := Lib.hid (Kept.below (p := p) b2)
          clear b1 b2 KA1 c0 c2
          go_wp2_with fail
          refine (fail_any S2.out 37).mono ?_
          rintro e w3 ⟨rfl, S3, K3⟩
          have S3 := Lib.hid S3
          have KP3 := KP.out.trans K3
          have BC3 := Lib.hid (KP3 _ _ _ _ hBC.out HZ.out.symm (by decide))
          have KW3 := Lib.hid (hK.out.trans KP3)
          clear K3 KP KP3 S2 hBC hK hS hok
          go_wp2_with fail
          go_roundw
          case rel => exact ⟨n + 1, stepM L c t, by go_num, by omega, by rw [HT.out]; exact S3, OKN, BC3, KW3, GO⟩
          case measure => simp [intOf]; omega
      · have e2 : decide ((n : Int) < (M : Int)) = false := decide_eq_false (by omega)
        have hG2 : Hid (goM L c M s = (t, n)) := by
          show _ = _
          rw [hG.out, show M - n = 0 by omega]
          unfold goM
          simp
        clear hs hG
        go_wp2_with fail
        rw [Exit.noGoto_ret]
        go_ret
        rw [hG2.out]
        exact ⟨rfl, hS.out, hK.out⟩
    · have e1 : (t.st == 0) = false := by simp [hs]
      have hG2 : Hid (goM L c M s = (t, n)) := by
        show _ = _
        rw [hG.out]
        cases hM : M - n with
        | zero => simp [goM]
        | succ m =>
          unfold goM
          rw [if_neg hs]
          simp
      clear hs hG
      go_wp2_with fail
      rw [Exit.noGoto_ret]
      go_ret
      rw [hG2.out]
      exact ⟨rfl, hS.out, hK.out⟩
end Go.Proofs.YtnllcmcahfkmaaaDoor
