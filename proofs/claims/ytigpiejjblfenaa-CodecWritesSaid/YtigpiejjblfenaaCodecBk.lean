/-
  The walk of basculelaw03.CodecBack.
-/
import Derived.Test.YtigpiejjblfenaaCodecPut
import Derived.Test.YtigpiejjblfenaaCodecRd
import Derived.Test.YtigpiejjblfenaaCodecK
import Derived.Test.YtigpiejjblfenaaEq
import Derived.Test.YtigpiejjblfenaaReg
namespace Go.Proofs.Ytigpiejjblfenaa
set_option maxRecDepth 100000
open Go.RowKit

def it0 : It := ⟨0, [], 0, [], 0, [], []⟩
/-- A slice of items. -/
def RdIt (w : World) (v : Value) (its : List It) : Prop := ∃ q c, v = .slice q its.length c ∧ (its = [] ∨ ∃ b off, q = some ⟨b, off, none⟩ ∧ ∀ i, i < its.length → ∃ cs, ItR w cs (its.getD i it0) ∧ ∀ j, j < 5 → w.cell? ⟨b, off + i * 5 + j, none⟩ = cs[j]?)
theorem RdIt.on {w w' : World} {v : Value} {its : List It} (h : RdIt w v its) (hb : Below w.heap.size w w') : RdIt w' v its := by
  obtain ⟨q, c, rfl, hq | ⟨b, off, rfl, hx⟩⟩ := h
  · exact ⟨q, c, rfl, .inl hq⟩
  · refine ⟨_, c, rfl, .inr ⟨b, off, rfl, fun i hi => ?_⟩⟩
    obtain ⟨cs, h1, h2⟩ := hx i hi
    refine ⟨cs, h1.on hb, fun j hj => ?_⟩
    obtain ⟨vu, vw, vh, vb, e, _⟩ := h1.form
    obtain ⟨u, hu⟩ : ∃ u, cs[j]? = some u := by subst e; exact ⟨_, List.getElem?_eq_getElem (by simpa using hj)⟩
    have := h2 j hj
    rw [hu] at this ⊢
    exact (hb.cell (lt_of_cell this)).trans this
theorem RdIt.at {w : World} {q : Option Addr} {n c : Nat} {its : List It} (h : RdIt w (.slice q n c) its) {i : Nat} (hi : i < its.length) :
    ∃ b off vu vw vh vb, q = some ⟨b, off, none⟩ ∧ ItR w [.int .i64 (its.getD i it0).k, vu, vw, vh, vb] (its.getD i it0) ∧ w.cell? ⟨b, off + i * 5, none⟩ = some (.int .i64 (its.getD i it0).k) ∧ w.cell? ⟨b, off + i * 5 + 1, none⟩ = some vu ∧ w.cell? ⟨b, off + i * 5 + 2, none⟩ = some vw ∧ w.cell? ⟨b, off + i * 5 + 3, none⟩ = some vh ∧ w.cell? ⟨b, off + i * 5 + 4, none⟩ = some vb := by
  obtain ⟨q', c', e, rfl | ⟨b, off, rfl, hx⟩⟩ := h
  · simp at hi
  · simp only [Value.slice.injEq] at e
    obtain ⟨cs, h1, h2⟩ := hx i hi
    obtain ⟨vu, vw, vh, vb, rfl, _⟩ := h1.form
    exact ⟨b, off, vu, vw, vh, vb, e.1, h1, h2 0 (by omega), h2 1 (by omega), h2 2 (by omega), h2 3 (by omega), h2 4 (by omega)⟩
def allB (its : List It) : List Int := its.flatMap It.bytes
theorem flat_at {α : Type} (f : α → List Int) (d : α) : ∀ {L : List α} {m : Nat}, m < L.length → L.flatMap f = (L.take m).flatMap f ++ (f (L.getD m d) ++ (L.drop (m + 1)).flatMap f)
  | [], _, h => by simp at h
  | x :: L, 0, _ => by simp
  | x :: L, m + 1, h => by
    have := flat_at f d (L := L) (m := m) (by simpa using h)
    simp only [List.flatMap_cons, List.take_succ_cons, List.drop_succ_cons, List.getD_cons_succ, List.append_assoc]
    rw [← this]
theorem flat_take {α : Type} (f : α → List Int) (d : α) {L : List α} {m : Nat} (h : m < L.length) : (L.take (m + 1)).flatMap f = (L.take m).flatMap f ++ f (L.getD m d) := by
  have e : L.take (m + 1) = L.take m ++ [L.getD m d] := by
    rw [List.take_add_one]
    simp [List.getD, h]
  rw [e, List.flatMap_append]
  simp
theorem drop_mid {A pre mid post : List Int} {n m : Nat} (h : A = pre ++ (mid ++ post)) (hn : pre.length = n) (hm : mid.length = m) : (A.drop n).take m = mid := by
  subst h hn hm
  rw [List.drop_left, List.take_left]
theorem drop_in {A B pre mid post : List Int} {n m : Nat} (h : A.drop n = B) (e : B = pre ++ (mid ++ post)) (hm : pre.length = m) : A.drop (n + m) = mid ++ post := by
  rw [← List.drop_drop, h, e, ← hm, List.drop_left]
theorem cell_chg {w w' : World} {S : List Nat} (h : Chg w w' S) {a : Addr} {v : Value} (hc : w.cell? a = some v) (ha : a.block ∉ S) : w'.cell? a = some v := by
  rw [World.cell?_of_block (w := w) (h.block _ (lt_of_cell hc) ha)]; exact hc
theorem below_chg {B : Nat} {w w1 w2 : World} {p : Nat} (h : Below B w w1) (hc : Chg w1 w2 [p]) (hp : B ≤ p) (hB : B ≤ w.heap.size) : Below B w w2 :=
  h.trans (hc.toBelow (Nat.le_trans hB h.size) (fun k hk => by simp at hk; omega))
@[go_sem] theorem Try.eq_wide (w : World) (a b c d : Int) : (Op.equalIn 10000 44 (.agg #[.int .u64 a, .int .u64 b, .int .u64 c, .int .u64 d]) (.agg #[.int .u64 a, .int .u64 b, .int .u64 c, .int .u64 d])).run Try.prog w = .ok true w := by
  have := run_equalIn_ints (P := Try.prog) w 9998 Try.underlying44 Try.underlying41 (by kernel_rfl) [a, b, c, d] [a, b, c, d] rfl rfl
  rw [beq_self_eq_true] at this
  exact this

theorem flat_ok {α : Type} {f : α → List Int} {L : List α} (h : ∀ x ∈ L, Bytes (f x)) : Bytes (L.flatMap f) := fun z hz => by
  obtain ⟨x, hx, hzx⟩ := List.mem_flatMap.1 hz
  exact h x hx z hzx
theorem It.bytes_ok {w : World} {cs : List Value} {x : It} (h : ItR w cs x) : Bytes x.bytes := by
  unfold It.bytes
  split
  · exact flat_ok fun n _ => be8_bytes n
  · split
    · refine flat_ok fun y _ z hz => ?_
      simp only [W4.bytes, bys, List.mem_map] at hz
      obtain ⟨j, _, rfl⟩ := hz
      exact by_lo _ _
    · split
      · intro z hz
        obtain ⟨y, hy, hzy⟩ := List.mem_flatten.1 hz
        simp only [hsOf, List.mem_map] at hy
        obtain ⟨j, _, rfl⟩ := hy
        exact h.z3 z (List.mem_of_mem_drop (List.mem_of_mem_take hzy))
      · refine flat_ok fun y hy z hz => ?_
        rcases List.mem_append.1 hz with hz | hz
        · exact be8_bytes _ z hz
        · exact h.z4 y hy z hz
theorem all_ok {w : World} {v : Value} {its : List It} (h : RdIt w v its) : Bytes (allB its) := by
  obtain ⟨q, c, e, rfl | ⟨b, off, rfl, hx⟩⟩ := h
  · intro z hz; simp [allB] at hz
  · refine flat_ok fun x hx' => ?_
    obtain ⟨i, hi, rfl⟩ := List.getElem_of_mem hx'
    obtain ⟨cs, h1, _⟩ := hx i hi
    have := It.bytes_ok h1
    rw [show its.getD i it0 = its[i] by simp [List.getD, hi]] at this
    exact this

set_option maxHeartbeats 16000000 in
theorem Back_walk {w : World} {v : Value} {its : List It} (hI : RdIt w v its) (hn : its.length ≤ 140737488355328) :
    Calls Try.prog 5 #[v] w fun e w' => e = .returned (.bool true) ∧ Below w.heap.size w w' := by
  obtain ⟨q, c, rfl⟩ : ∃ q c, v = .slice q its.length c := by obtain ⟨q, c, e, _⟩ := hI; exact ⟨q, c, e⟩
  have HI := Lib.hid hI
  have b1 : Below w.heap.size w (w.alloc (.cells #[.bool true, .slice none 0 0] 54)) := (Below.refl _ _).alloc (Nat.le_refl _) _
  have HB1 := Lib.hid b1
  have HW1 := Lib.hid (WrV.new w)
  clear hI b1
  go_enter Try.func5, Try.ntmps5
  go_wp2_with fail
  refine (NewWriter_any w).mono ?_
  rintro e w1 ⟨rfl, rfl⟩
  generalize w.alloc (.cells #[.bool true, .slice none 0 0] 54) = w1 at *
  go_wp2_with fail
  refine (knows_any _).mono ?_
  rintro e w2 ⟨rfl, hb2⟩
  have HB2 := Lib.hid (HB1.out.trans (hb2.mono HB1.out.size))
  have HW2 := Lib.hid (HW1.out.on hb2)
  have H0 : Hid (WSt w2 w.heap.size (.slice none 0 0) w2 (allB (its.take 0))) := by
    show WSt _ _ _ _ _
    exact (WSt.start HW2.out).of_eq (by simp [allB])
  clear HB1 HW1 hb2
  go_wp2_with fail
  go_loopw [4] (fun iv wr => ∃ i : Nat, iv = .int .i64 i ∧ i ≤ its.length ∧ (allB (its.take i)).length ≤ 65536 ∧ Hid (WSt w2 w.heap.size (.slice none 0 0) wr (allB (its.take i)))) (fun iv _ => its.length - (intOf iv).toNat)
  case atStart => exact ⟨0, rfl, by omega, by simp [allB], H0⟩
  case round =>
    clear H0
    obtain ⟨i, rfl, hil, hle, hS⟩ := hrel
    have HBr : Hid (Below w.heap.size w wr) := by
      obtain ⟨_, _, hc, _⟩ := hS.out
      exact Lib.hid (HB2.out.trans (hc.toBelow HB2.out.size (fun k hk => by simp [Value.ownBlock] at hk; omega)))
    by_cases hlt : i < its.length
    · obtain ⟨b, off, vu, vw, vh, vb, rfl, hit, c0, c1, c2, c3, c4⟩ := (HI.out.on HBr.out).at hlt
      obtain ⟨v3, hW3, hc3, hf3⟩ := hS.out
      have HIT := Lib.hid hit
      have HT := Lib.hid (flat_take It.bytes it0 hlt)
      by_cases hfit : (allB (its.take i)).length + (its.getD i it0).bytes.length ≤ 65536
      · have KP := Lib.hid (put_fits hW3 hit hfit)
        have HS3 := Lib.hid hS.out
        have HW3 := Lib.hid hW3
        have HL : Hid ((allB (its.take (i + 1))).length ≤ 65536) := by
          show _ ≤ _
          unfold allB; rw [HT.out, List.length_append]; exact hfit
        clear hit hS hW3 hc3 hf3 hfit
        generalize (its.getD i it0).k = kx at *
        go_wp2_with fail
        refine KP.out.mono ?_
        rintro e w3 ⟨rfl, hw3⟩
        have HN : Hid (WSt w2 w.heap.size (.slice none 0 0) w3 (allB (its.take (i + 1)))) := by
          show WSt _ _ _ _ _
          have := WSt.trans HS3.out (fun u hu => by
            have e1 : u = v3 := by
              have := hu.cells.2.1
              rw [HW3.out.cells.2.1] at this
              exact (Option.some.inj this).symm
            rw [e1]
            exact hw3)
          exact this.of_eq HT.out.symm
        clear hw3 KP HS3 HW3 HIT c0 c1 c2 c3 c4
        go_wp2_with fail
        refine (num_any _ _).mono ?_
        rintro e wx ⟨rfl, rfl⟩
        go_wp2_with fail
        go_roundw
        case rel => exact ⟨i + 1, by go_num, by omega, HL.out, HN⟩
        case measure => simp [intOf]; omega
      · have KP := Lib.hid (put_full hW3 hit hle (by omega))
        have HW3 := Lib.hid hW3
        clear hit hS hW3 hc3 hf3 hfit
        generalize (its.getD i it0).k = kx at *
        go_wp2_with fail
        refine KP.out.mono ?_
        rintro e w3 ⟨rfl, hb3⟩
        have HW4 := Lib.hid (HW3.out.on hb3)
        have HB4 := Lib.hid (HBr.out.trans (hb3.mono HBr.out.size))
        clear hb3 KP HW3 HIT c0 c1 c2 c3 c4
        go_wp2_with fail
        refine (num_any _ _).mono ?_
        rintro e wx ⟨rfl, rfl⟩
        go_wp2_with fail
        refine (WBytes_any HW4.out hle).mono ?_
        rintro e w5 ⟨u, rfl, hu⟩
        have HB5 := Lib.hid (HB4.out.trans (hu.2.2.1.mono HB4.out.size))
        obtain ⟨qu, cu, rfl⟩ := hu.1
        clear hu
        have hle2 : ((allB (its.take i)).length : Int) ≤ 65536 := by omega
        go_wp2_with fail
        go_ret
        exact ⟨rfl, HB5.out⟩
    · obtain rfl : i = its.length := by omega
      have hS2 := hS.out
      rw [List.take_length] at hS2 hle
      obtain ⟨v3, hW3, -, -⟩ := hS2
      have HW3 := Lib.hid hW3
      clear hS hW3 hlt
      generalize hAL : allB its = ALL at *
      go_wp2_with fail
      refine (WBytes_any HW3.out hle).mono ?_
      rintro e w5 ⟨u, rfl, hu⟩
      have HU := Lib.hid hu.rd
      have HB5 := Lib.hid (HBr.out.trans (hu.2.2.1.mono HBr.out.size))
      obtain ⟨qu, cu, rfl⟩ := hu.1
      clear hu HBr HW3
      go_wp2_with fail
      refine (NewReader_any HU.out (by omega)).mono ?_
      rintro e w6 ⟨p2, v2, rfl, hR, hp2, hb6, -⟩
      have HB6 := Lib.hid (HB5.out.trans (hb6.mono HB5.out.size))
      have HR := Lib.hid hR
      have HP2 : w.heap.size ≤ p2 := Nat.le_trans HB5.out.size hp2
      have HX : Hid (Bytes ALL) := by
        show Bytes ALL
        rw [← hAL]; exact all_ok HI.out
      have hAll := Lib.hid hAL
      clear hR hp2 hb6 HU HB5 HB2 hAL
      go_wp2_with fail
      go_loopw [6] (fun iv wr => ∃ i : Nat, iv = .int .i64 i ∧ i ≤ its.length ∧ Hid (RrV wr p2 v2 ALL (allB (its.take i)).length) ∧ Hid (Below w.heap.size w wr)) (fun iv _ => its.length - (intOf iv).toNat)
      case atStart => exact ⟨0, rfl, by omega, (by simpa [allB] using HR.out : RrV w6 p2 v2 ALL (allB (its.take 0)).length), HB6⟩
      case round =>
        clear HR HB6
        obtain ⟨i, rfl, hil, hR, hB⟩ := hrel
        by_cases hlt : i < its.length
        · skip
          obtain ⟨b, off, vu, vw, vh, vb, rfl, hit, g0, g1, g2, g3, g4⟩ := HI.out.at hlt
          obtain ⟨wo, rfl⟩ : ∃ wo : World, wo = wr := ⟨_, rfl⟩
          have c0 := hB.out.cell (lt_of_cell g0) |>.trans g0
          have c1 := hB.out.cell (lt_of_cell g1) |>.trans g1
          have c2 := hB.out.cell (lt_of_cell g2) |>.trans g2
          have c3 := hB.out.cell (lt_of_cell g3) |>.trans g3
          have c4 := hB.out.cell (lt_of_cell g4) |>.trans g4
          have HAT : Hid (ALL.drop (allB (its.take i)).length = (its.getD i it0).bytes ++ allB (its.drop (i + 1))) := by
            show _ = _
            have e := flat_at It.bytes it0 hlt
            have e2 : ALL = allB (its.take i) ++ ((its.getD i it0).bytes ++ allB (its.drop (i + 1))) := by rw [← hAll.out]; exact e
            rw [e2, List.drop_left]
          have HNX : Hid ((allB (its.take (i + 1))).length = (allB (its.take i)).length + (its.getD i it0).bytes.length) := by
            show _ = _
            have e := flat_take It.bytes it0 hlt
            unfold allB
            rw [e, List.length_append]
          have HTOT : Hid ((allB (its.take i)).length + (its.getD i it0).bytes.length ≤ ALL.length) := by
            show _ ≤ _
            have e := congrArg List.length (flat_at It.bytes it0 hlt)
            rw [← hAll.out]
            unfold allB
            simp only [List.length_append] at e
            omega
          obtain ⟨vu', vw', vh', vb', e, r1, r2, r3, r4⟩ := hit.form
          simp only [List.cons.injEq, true_and, and_true] at e
          obtain ⟨rfl, rfl, rfl, rfl⟩ := e
          have Z1 := Lib.hid hit.z1
          have Z2 := Lib.hid hit.z2
          have Z4 := Lib.hid hit.z4
          have s1 := hit.s1
          have s2 := hit.s2
          have s3 := hit.s3
          have s4 := hit.s4
          clear hit g0 g1 g2 g3 g4
          obtain ⟨P0, hP0⟩ : ∃ P0, (allB (its.take i)).length = P0 := ⟨_, rfl⟩
          rw [hP0] at HAT HNX HTOT hR
          clear hP0
          obtain ⟨x, hx⟩ : ∃ x, its.getD i it0 = x := ⟨_, rfl⟩
          rw [hx] at HAT HNX HTOT r1 r2 r3 r4 Z1 Z2 Z4 s1 s2 s3 s4 c0
          clear hx
          obtain ⟨kx, us, nw, zw, nh, zh, bs⟩ := x
          dsimp only at r1 r2 r3 r4 Z1 Z2 Z4 s1 s2 s3 s4 c0
          obtain ⟨q1, k1, rfl⟩ := r1.len
          obtain ⟨q2, k2, rfl⟩ := r2.len
          obtain ⟨q3, k3, rfl⟩ := r3.len
          obtain ⟨q4, k4, rfl⟩ : ∃ q c, vb = .slice q bs.length c := by obtain ⟨q, c, e, _⟩ := r4; exact ⟨q, c, e⟩
          have R1 := Lib.hid r1
          have R2 := Lib.hid r2
          have R3 := Lib.hid r3
          have R4 := Lib.hid r4
          clear r1 r2 r3 r4
          have hp2l := hR.out.lt
          have BA : Below w.heap.size w (wo.alloc (.cells #[.int .i64 kx, .slice q1 us.length k1, .slice q2 nw k2, .slice q3 nh k3, .slice q4 bs.length k4] 33)) := hB.out.alloc hB.out.size _
          have HBA := Lib.hid BA
          have HRA := Lib.hid (hR.out.on ((Below.refl _ _).alloc (Nat.le_refl _) (.cells #[.int .i64 kx, .slice q1 us.length k1, .slice q2 nw k2, .slice q3 nh k3, .slice q4 bs.length k4] 33)))
          have HA7 := Lib.hid (heap_alloc_new wo (.cells #[.int .i64 kx, .slice q1 us.length k1, .slice q2 nw k2, .slice q3 nh k3, .slice q4 bs.length k4] 33))
          clear BA hR hB
          by_cases kc1 : kx = 0
          · have hb : It.bytes ⟨kx, us, nw, zw, nh, zh, bs⟩ = nums us := by unfold It.bytes; rw [if_pos kc1]
            have HAT2 := HAT.out
            have HNX2 := HNX.out
            rw [hb] at HAT2 HNX2
            have HA := Lib.hid HAT2
            have HN0 := Lib.hid HNX2
            clear HAT HNX HAT2 HNX2 hb
            subst kc1
            go_wp2_with fail
            generalize wo.alloc (.cells #[.int .i64 0, .slice q1 us.length k1, .slice q2 nw k2, .slice q3 nh k3, .slice q4 bs.length k4] 33) = WA at *
            generalize wo.heap.size = b7 at *
            clear c0 c1 c2 c3 c4
            go_loopw [8] (fun iv wr => ∃ m : Nat, iv = .int .i64 m ∧ m ≤ us.length ∧ Hid (RrV wr p2 v2 ALL (P0 + 8 * m)) ∧ Hid (Chg WA wr [p2])) (fun iv _ => us.length - (intOf iv).toNat)
            case atStart => exact ⟨0, rfl, by omega, (by simpa [blobs] using HRA.out : RrV WA p2 v2 ALL (P0 + 8 * 0)), Chg.refl _ _⟩
            case round =>
              clear HRA
              obtain ⟨m, rfl, hm, hR, hC⟩ := hrel
              have HBr := Lib.hid (below_chg HBA.out hC.out HP2 (Nat.le_refl _))
              have d0 : wr.cell? ⟨b7, 1, none⟩ = _ := cell_chg hC.out ((Joins.cell_of_block HA7.out 1).trans rfl) (by show b7 ∉ [p2]; simp; omega)
              by_cases hmt : m < us.length
              · obtain ⟨bu, offu, -, rfl, -, hcu0⟩ := (RdZ.nums R1.out).at hmt
                have hbu := lt_of_cell hcu0
                have hcu : wr.cell? ⟨bu, offu + m, none⟩ = some (.int .u64 (us.getD m 0)) := (HBr.out.cell hbu).trans hcu0
                have hzb := Z1.out (us.getD m 0) (by simp [List.getD, hmt])
                have hfl := flat_at be8 0 hmt
                have hD := drop_in (m := 8 * m) HA.out (show nums us ++ allB (its.drop (i + 1)) = nums (us.take m) ++ (be8 (us.getD m 0) ++ (nums (us.drop (m + 1)) ++ allB (its.drop (i + 1)))) by unfold nums; rw [hfl, List.append_assoc, List.append_assoc]) (by rw [nums_len, List.length_take]; omega)
                have hz : num ((ALL.drop (P0 + 8 * m)).take 8) = us.getD m 0 := by
                  rw [hD, List.take_left' (by simp), num_be8 hzb.1 (by have := hzb.2; unfold B at this; omega)]
                have hf : P0 + 8 * m + 8 ≤ ALL.length := by
                  have e := congrArg List.length hD
                  simp only [List.length_drop, List.length_append, be8_len] at e
                  omega
                have hbu' : bu < w.heap.size := hbu
                have HZ := Lib.hid hz
                clear hD hfl hzb hz hbu hcu0
                obtain ⟨z, hzz⟩ : ∃ z, us.getD m 0 = z := ⟨_, rfl⟩
                rw [hzz] at hcu HZ
                clear hzz
                have Q := Lib.hid (And.intro d0 hcu)
                go_wp2_with fail
                refine wp_region_held_drew (S := fun W => W.cell? ⟨b7, 1, none⟩ = some (.slice (some ⟨bu, offu, none⟩) us.length k1) ∧ W.cell? ⟨bu, offu + m, none⟩ = some (.int .u64 z)) (by kernel_rfl) (Q.out) (fun h0 => ?_)
                refine wpAnyH_take (i := 0) (v := ?_) (by rw [List.getElem?_toArray]; rfl) (by kernel_rfl) (by kernel_rfl) (by kernel_rfl) (by exact fun _ _ _ h => h) (Or.inl ⟨by rfl, ?_⟩) h0 ?_
                rotate_left
                · intro W hW
                  go_simp
                  all_goals with_reducible rfl
                try simp only [Act.put, List.setIfInBounds_toArray, List.set_cons_zero, List.set_cons_succ]
                refine wpAnyH_take (i := 2) (v := ?_) (by rw [List.getElem?_toArray]; rfl) (by kernel_rfl) (by kernel_rfl) (by kernel_rfl) (by exact fun _ _ _ h => h) (Or.inl ⟨by rfl, ?_⟩) h0 ?_
                rotate_left
                · intro W hW
                  go_simp
                  all_goals with_reducible rfl
                try simp only [Act.put, List.setIfInBounds_toArray, List.set_cons_zero, List.set_cons_succ]
                refine wpAnyH_take (i := 3) (v := ?_) (by rw [List.getElem?_toArray]; rfl) (by kernel_rfl) (by kernel_rfl) (by kernel_rfl) (by exact fun _ _ _ h => h) (Or.inl ⟨by rfl, ?_⟩) h0 ?_
                rotate_left
                · intro W hW
                  obtain ⟨f1, f2⟩ := hW
                  go_simp
                  all_goals with_reducible rfl
                try simp only [Act.put, List.setIfInBounds_toArray, List.set_cons_zero, List.set_cons_succ]
                refine wpAnyH_take (i := 4) (v := ?_) (by rw [List.getElem?_toArray]; rfl) (by kernel_rfl) (by kernel_rfl) (by kernel_rfl) (by exact fun _ _ _ h => h) (Or.inl ⟨by rfl, ?_⟩) h0 ?_
                rotate_left
                · intro W hW
                  go_simp
                  all_goals with_reducible rfl
                try simp only [Act.put, List.setIfInBounds_toArray, List.set_cons_zero, List.set_cons_succ]
                refine wpAnyH_take (i := 5) (v := ?_) (by rw [List.getElem?_toArray]; rfl) (by kernel_rfl) (by kernel_rfl) (by kernel_rfl) (by exact fun _ _ _ h => h) (Or.inl ⟨by rfl, ?_⟩) h0 ?_
                rotate_left
                · intro W hW
                  go_simp
                  all_goals with_reducible rfl
                try simp only [Act.put, List.setIfInBounds_toArray, List.set_cons_zero, List.set_cons_succ]
                refine wpAnyH_take (i := 6) (v := ?_) (by rw [List.getElem?_toArray]; rfl) (by kernel_rfl) (by kernel_rfl) (by kernel_rfl) (by exact fun _ _ _ h => h) (Or.inl ⟨by rfl, ?_⟩) h0 ?_
                rotate_left
                · intro W hW
                  obtain ⟨f1, f2⟩ := hW
                  go_simp
                  all_goals with_reducible rfl
                try simp only [Act.put, List.setIfInBounds_toArray, List.set_cons_zero, List.set_cons_succ]
                refine wpAnyH_ready (rs := [1]) (by kernel_rfl) (by simp) ?_
                refine AllReadyH.cons (by rw [List.getElem?_toArray]; rfl) (fun K hK => ?_) AllReadyH.nil
                rw [if_pos (by rfl)]
                have KK := RUint_ok (w := wr.drew) (hR.out.drewN 1) HX.out hf HZ.out
                go_wp2_with fail
                refine KK.mono ?_
                rintro e w5 ⟨rfl, hr5, hc5⟩
                clear KK
                go_wp2_with fail
                have HNR : Hid (RrV w5 p2 v2 ALL (P0 + 8 * (m + 1))) := by
                  show RrV _ _ _ _ _
                  rw [show P0 + 8 * (m + 1) = P0 + 8 * m + 8 by omega]
                  exact hr5
                have HNC : Hid (Chg WA w5 [p2]) := Lib.hid (hC.out.drew.trans hc5 (fun x hx _ => hx))
                clear hr5 hR hC
                refine hK.out _ _ (⟨cell_chg hc5 h0.1 (by show b7 ∉ [p2]; simp; omega), cell_chg hc5 h0.2 (by show bu ∉ [p2]; simp; omega)⟩) (fun h1 => ?_)
                clear hK K
                try simp only [Act.put, List.setIfInBounds_toArray, List.set_cons_zero, List.set_cons_succ]
                refine wpAnyH_take (i := 7) (v := ?_) (by rw [List.getElem?_toArray]; rfl) (by kernel_rfl) (by kernel_rfl) (by kernel_rfl) (by exact fun _ _ _ h => h) (Or.inl ⟨by rfl, ?_⟩) h1 ?_
                rotate_left
                · intro W hW
                  go_simp
                  all_goals with_reducible rfl
                try simp only [Act.put, List.setIfInBounds_toArray, List.set_cons_zero, List.set_cons_succ]
                refine wpAnyH_done (by kernel_rfl) ?_ _
                go_wp2_with fail
                refine ⟨⟨m + 1, by go_num, by omega, HNR, HNC⟩, by simp [intOf]; omega⟩
              · obtain rfl : m = us.length := by omega
                have HN : Hid (RrV wr p2 v2 ALL (allB (its.take (i + 1))).length) := by
                  show RrV _ _ _ _ _
                  rw [HN0.out, nums_len]
                  exact hR.out
                clear hR hC
                go_wp2_with fail
                refine ⟨⟨i + 1, by go_num, by omega, HN, HBr⟩, by simp [intOf]; omega⟩
          by_cases kc2 : kx = 1
          · have hb : It.bytes ⟨kx, us, nw, zw, nh, zh, bs⟩ = wides (wsOf nw zw) := by unfold It.bytes; rw [if_neg kc1, if_pos kc2]
            have HAT2 := HAT.out
            have HNX2 := HNX.out
            rw [hb] at HAT2 HNX2
            have HA := Lib.hid HAT2
            have HN0 := Lib.hid HNX2
            clear HAT HNX HAT2 HNX2 hb
            subst kc2
            clear kc1
            go_wp2_with fail
            generalize wo.alloc (.cells #[.int .i64 1, .slice q1 us.length k1, .slice q2 nw k2, .slice q3 nh k3, .slice q4 bs.length k4] 33) = WA at *
            generalize wo.heap.size = b7 at *
            clear c0 c1 c2 c3 c4
            go_loopw [9] (fun iv wr => ∃ m : Nat, iv = .int .i64 m ∧ m ≤ nw ∧ Hid (RrV wr p2 v2 ALL (P0 + 32 * m)) ∧ Hid (Chg WA wr [p2])) (fun iv _ => nw - (intOf iv).toNat)
            case atStart => exact ⟨0, rfl, by omega, (by simpa [blobs] using HRA.out : RrV WA p2 v2 ALL (P0 + 32 * 0)), Chg.refl _ _⟩
            case round =>
              clear HRA
              obtain ⟨m, rfl, hm, hR, hC⟩ := hrel
              have HBr := Lib.hid (below_chg HBA.out hC.out HP2 (Nat.le_refl _))
              have d0 : wr.cell? ⟨b7, 2, none⟩ = _ := cell_chg hC.out ((Joins.cell_of_block HA7.out 2).trans rfl) (by show b7 ∉ [p2]; simp; omega)
              by_cases hmt : m < nw
              · obtain ⟨bu, offu, -, rfl, -, hd4, g0, g1, g2, g3⟩ := (RdZ.wides R2.out Z2.out).at (show m < (wsOf nw zw).length by rw [wsOf_len]; exact hmt)
                have hbu := lt_of_cell g0
                have hbu' : bu < w.heap.size := hbu
                have e0 := (HBr.out.cell (lt_of_cell g0)).trans g0
                have e1 := (HBr.out.cell (lt_of_cell g1)).trans g1
                have e2 := (HBr.out.cell (lt_of_cell g2)).trans g2
                have e3 := (HBr.out.cell (lt_of_cell g3)).trans g3
                have hfl := flat_at W4.bytes w0 (L := wsOf nw zw) (m := m) (by rw [wsOf_len]; exact hmt)
                have hD := drop_in (m := 32 * m) HA.out (show wides (wsOf nw zw) ++ allB (its.drop (i + 1)) = wides ((wsOf nw zw).take m) ++ (((wsOf nw zw).getD m w0).bytes ++ (wides ((wsOf nw zw).drop (m + 1)) ++ allB (its.drop (i + 1)))) by unfold wides; rw [hfl, List.append_assoc, List.append_assoc]) (by rw [wides_len, List.length_take, wsOf_len]; omega)
                have hz : (ALL.drop (P0 + 32 * m)).take 32 = ((wsOf nw zw).getD m w0).bytes := by
                  rw [hD, List.take_left' (W4.len _)]
                have hf : P0 + 32 * m + 32 ≤ ALL.length := by
                  have e := congrArg List.length hD
                  simp only [List.length_drop, List.length_append, W4.len] at e
                  omega
                have HZ := Lib.hid hz
                clear hD hfl hz hbu g0 g1 g2 g3
                obtain ⟨y, hy⟩ : ∃ y, (wsOf nw zw).getD m w0 = y := ⟨_, rfl⟩
                rw [hy] at e0 e1 e2 e3 HZ hd4
                clear hy
                have HD4 := Lib.hid hd4
                clear hd4
                have Q := Lib.hid (And.intro d0 (And.intro e0 (And.intro e1 (And.intro e2 e3))))
                go_wp2_with fail
                refine wp_region_held_drew (S := fun W => W.cell? ⟨b7, 2, none⟩ = some (.slice (some ⟨bu, offu, none⟩) nw k2) ∧ W.cell? ⟨bu, offu + m * 4, none⟩ = some (.int .u64 y.a) ∧ W.cell? ⟨bu, offu + m * 4 + 1, none⟩ = some (.int .u64 y.b) ∧ W.cell? ⟨bu, offu + m * 4 + 2, none⟩ = some (.int .u64 y.c) ∧ W.cell? ⟨bu, offu + m * 4 + 3, none⟩ = some (.int .u64 y.d)) (by kernel_rfl) (Q.out) (fun h0 => ?_)
                refine wpAnyH_take (i := 0) (v := ?_) (by rw [List.getElem?_toArray]; rfl) (by kernel_rfl) (by kernel_rfl) (by kernel_rfl) (by exact fun _ _ _ h => h) (Or.inl ⟨by rfl, ?_⟩) h0 ?_
                rotate_left
                · intro W hW
                  go_simp
                  all_goals with_reducible rfl
                try simp only [Act.put, List.setIfInBounds_toArray, List.set_cons_zero, List.set_cons_succ]
                refine wpAnyH_take (i := 2) (v := ?_) (by rw [List.getElem?_toArray]; rfl) (by kernel_rfl) (by kernel_rfl) (by kernel_rfl) (by exact fun _ _ _ h => h) (Or.inl ⟨by rfl, ?_⟩) h0 ?_
                rotate_left
                · intro W hW
                  go_simp
                  all_goals with_reducible rfl
                try simp only [Act.put, List.setIfInBounds_toArray, List.set_cons_zero, List.set_cons_succ]
                refine wpAnyH_take (i := 3) (v := ?_) (by rw [List.getElem?_toArray]; rfl) (by kernel_rfl) (by kernel_rfl) (by kernel_rfl) (by exact fun _ _ _ h => h) (Or.inl ⟨by rfl, ?_⟩) h0 ?_
                rotate_left
                · intro W hW
                  obtain ⟨f1, f2, f3, f4, f5⟩ := hW
                  go_simp
                  all_goals with_reducible rfl
                try simp only [Act.put, List.setIfInBounds_toArray, List.set_cons_zero, List.set_cons_succ]
                refine wpAnyH_take (i := 4) (v := ?_) (by rw [List.getElem?_toArray]; rfl) (by kernel_rfl) (by kernel_rfl) (by kernel_rfl) (by exact fun _ _ _ h => h) (Or.inl ⟨by rfl, ?_⟩) h0 ?_
                rotate_left
                · intro W hW
                  go_simp
                  all_goals with_reducible rfl
                try simp only [Act.put, List.setIfInBounds_toArray, List.set_cons_zero, List.set_cons_succ]
                refine wpAnyH_take (i := 5) (v := ?_) (by rw [List.getElem?_toArray]; rfl) (by kernel_rfl) (by kernel_rfl) (by kernel_rfl) (by exact fun _ _ _ h => h) (Or.inl ⟨by rfl, ?_⟩) h0 ?_
                rotate_left
                · intro W hW
                  go_simp
                  all_goals with_reducible rfl
                try simp only [Act.put, List.setIfInBounds_toArray, List.set_cons_zero, List.set_cons_succ]
                refine wpAnyH_take (i := 6) (v := ?_) (by rw [List.getElem?_toArray]; rfl) (by kernel_rfl) (by kernel_rfl) (by kernel_rfl) (by exact fun _ _ _ h => h) (Or.inl ⟨by rfl, ?_⟩) h0 ?_
                rotate_left
                · intro W hW
                  obtain ⟨f1, f2, f3, f4, f5⟩ := hW
                  go_simp
                  all_goals with_reducible rfl
                try simp only [Act.put, List.setIfInBounds_toArray, List.set_cons_zero, List.set_cons_succ]
                refine wpAnyH_ready (rs := [1]) (by kernel_rfl) (by simp) ?_
                refine AllReadyH.cons (by rw [List.getElem?_toArray]; rfl) (fun K hK => ?_) AllReadyH.nil
                rw [if_pos (by rfl)]
                have KK := RWide_ok (w := wr.drew) (hR.out.drewN 1) HD4.out hf HZ.out
                go_wp2_with fail
                refine KK.mono ?_
                rintro e w5 ⟨rfl, hr5, hc5⟩
                clear KK
                go_wp2_with fail
                have HNR : Hid (RrV w5 p2 v2 ALL (P0 + 32 * (m + 1))) := by
                  show RrV _ _ _ _ _
                  rw [show P0 + 32 * (m + 1) = P0 + 32 * m + 32 by omega]
                  exact hr5
                have HNC : Hid (Chg WA w5 [p2]) := Lib.hid (hC.out.drew.trans hc5 (fun x hx _ => hx))
                clear hr5 hR hC
                refine hK.out _ _ (⟨cell_chg hc5 h0.1 (by show b7 ∉ [p2]; simp; omega), cell_chg hc5 h0.2.1 (by show bu ∉ [p2]; simp; omega), cell_chg hc5 h0.2.2.1 (by show bu ∉ [p2]; simp; omega), cell_chg hc5 h0.2.2.2.1 (by show bu ∉ [p2]; simp; omega), cell_chg hc5 h0.2.2.2.2 (by show bu ∉ [p2]; simp; omega)⟩) (fun h1 => ?_)
                clear hK K
                try simp only [Act.put, List.setIfInBounds_toArray, List.set_cons_zero, List.set_cons_succ]
                refine wpAnyH_take (i := 7) (v := ?_) (by rw [List.getElem?_toArray]; rfl) (by kernel_rfl) (by kernel_rfl) (by kernel_rfl) (by exact fun _ _ _ h => h) (Or.inl ⟨by rfl, ?_⟩) h1 ?_
                rotate_left
                · intro W hW
                  go_simp
                  all_goals with_reducible rfl
                try simp only [Act.put, List.setIfInBounds_toArray, List.set_cons_zero, List.set_cons_succ]
                refine wpAnyH_done (by kernel_rfl) ?_ _
                go_wp2_with fail
                refine ⟨⟨m + 1, by go_num, by omega, HNR, HNC⟩, by simp [intOf]; omega⟩
              · obtain rfl : m = nw := by omega
                have HN : Hid (RrV wr p2 v2 ALL (allB (its.take (i + 1))).length) := by
                  show RrV _ _ _ _ _
                  rw [HN0.out, wides_len, wsOf_len]
                  exact hR.out
                clear hR hC
                go_wp2_with fail
                refine ⟨⟨i + 1, by go_num, by omega, HN, HBr⟩, by simp [intOf]; omega⟩
          by_cases kc3 : kx = 2
          · have hb : It.bytes ⟨kx, us, nw, zw, nh, zh, bs⟩ = (hsOf nh zh).flatten := by unfold It.bytes; rw [if_neg kc1, if_neg kc2, if_pos kc3]
            have HAT2 := HAT.out
            have HNX2 := HNX.out
            rw [hb] at HAT2 HNX2
            have HA := Lib.hid HAT2
            have HN0 := Lib.hid HNX2
            clear HAT HNX HAT2 HNX2 hb
            subst kc3
            clear kc1 kc2
            go_wp2_with fail
            generalize wo.alloc (.cells #[.int .i64 2, .slice q1 us.length k1, .slice q2 nw k2, .slice q3 nh k3, .slice q4 bs.length k4] 33) = WA at *
            generalize wo.heap.size = b7 at *
            clear c0 c1 c2 c3 c4
            go_loopw [10] (fun iv wr => ∃ m : Nat, iv = .int .i64 m ∧ m ≤ nh ∧ Hid (RrV wr p2 v2 ALL (P0 + 32 * m)) ∧ Hid (Chg WA wr [p2])) (fun iv _ => nh - (intOf iv).toNat)
            case atStart => exact ⟨0, rfl, by omega, (by simpa [blobs] using HRA.out : RrV WA p2 v2 ALL (P0 + 32 * 0)), Chg.refl _ _⟩
            case round =>
              clear HRA
              obtain ⟨m, rfl, hm, hR, hC⟩ := hrel
              have HBr := Lib.hid (below_chg HBA.out hC.out HP2 (Nat.le_refl _))
              have d0 : wr.cell? ⟨b7, 3, none⟩ = _ := cell_chg hC.out ((Joins.cell_of_block HA7.out 3).trans rfl) (by show b7 ∉ [p2]; simp; omega)
              by_cases hmt : m < nh
              · obtain ⟨bu, offu, -, rfl, -, hbu, hF, hrow0⟩ := (RdZ.hashes R3.out).at (show m < (hsOf nh zh).length by rw [hsOf_len]; exact hmt)
                have hbu' : bu < w.heap.size := hbu
                have hrow : rowOf wr bu (offu + m * 32) 32 = hc ((hsOf nh zh).getD m []) := by
                  rw [← hrow0]
                  unfold rowOf
                  rw [HBr.out.block _ hbu]
                have hfl := flat_at (fun y : List Int => y) [] (L := hsOf nh zh) (m := m) (by rw [hsOf_len]; exact hmt)
                have hzl : zh.length = nh * 32 := by obtain ⟨_, _, _, e2, _⟩ := R3.out; exact e2
                have hD := drop_in (m := 32 * m) HA.out (show (hsOf nh zh).flatten ++ allB (its.drop (i + 1)) = ((hsOf nh zh).take m).flatten ++ ((hsOf nh zh).getD m [] ++ (((hsOf nh zh).drop (m + 1)).flatten ++ allB (its.drop (i + 1)))) by
                  simp only [List.flatMap_id'] at hfl
                  rw [hfl, List.append_assoc, List.append_assoc]) (by rw [flat_const (k := 32), List.length_take, hsOf_len]; · omega
                                                                      · intro y hy
                                                                        have := List.mem_of_mem_take hy
                                                                        simp only [hsOf, List.mem_map, List.mem_range] at this
                                                                        obtain ⟨j, hj, rfl⟩ := this
                                                                        simp; omega)
                have hz : (ALL.drop (P0 + 32 * m)).take 32 = (hsOf nh zh).getD m [] := by
                  rw [hD, List.take_left' hF]
                have hf : P0 + 32 * m + 32 ≤ ALL.length := by
                  have e := congrArg List.length hD
                  simp only [List.length_drop, List.length_append, hF] at e
                  omega
                have HZ := Lib.hid hz
                clear hD hfl hz hbu hrow0 hzl
                obtain ⟨y, hy⟩ : ∃ y, (hsOf nh zh).getD m [] = y := ⟨_, rfl⟩
                rw [hy] at hrow HZ hF
                clear hy
                have hlF := hc_len y
                have Q := Lib.hid (And.intro d0 hrow)
                go_wp2_with fail
                refine wp_region_held_drew (S := fun W => W.cell? ⟨b7, 3, none⟩ = some (.slice (some ⟨bu, offu, none⟩) nh k3) ∧ rowOf W bu (offu + m * 32) 32 = hc y) (by kernel_rfl) (Q.out) (fun h0 => ?_)
                refine wpAnyH_take (i := 0) (v := ?_) (by rw [List.getElem?_toArray]; rfl) (by kernel_rfl) (by kernel_rfl) (by kernel_rfl) (by exact fun _ _ _ h => h) (Or.inl ⟨by rfl, ?_⟩) h0 ?_
                rotate_left
                · intro W hW
                  go_simp
                  all_goals with_reducible rfl
                try simp only [Act.put, List.setIfInBounds_toArray, List.set_cons_zero, List.set_cons_succ]
                refine wpAnyH_take (i := 2) (v := ?_) (by rw [List.getElem?_toArray]; rfl) (by kernel_rfl) (by kernel_rfl) (by kernel_rfl) (by exact fun _ _ _ h => h) (Or.inl ⟨by rfl, ?_⟩) h0 ?_
                rotate_left
                · intro W hW
                  go_simp
                  all_goals with_reducible rfl
                try simp only [Act.put, List.setIfInBounds_toArray, List.set_cons_zero, List.set_cons_succ]
                refine wpAnyH_take (i := 3) (v := ?_) (by rw [List.getElem?_toArray]; rfl) (by kernel_rfl) (by kernel_rfl) (by kernel_rfl) (by exact fun _ _ _ h => h) (Or.inl ⟨by rfl, ?_⟩) h0 ?_
                rotate_left
                · intro W hW
                  obtain ⟨f1, f2⟩ := hW
                  go_simp
                  all_goals with_reducible rfl
                try simp only [Act.put, List.setIfInBounds_toArray, List.set_cons_zero, List.set_cons_succ]
                refine wpAnyH_take (i := 4) (v := ?_) (by rw [List.getElem?_toArray]; rfl) (by kernel_rfl) (by kernel_rfl) (by kernel_rfl) (by exact fun _ _ _ h => h) (Or.inl ⟨by rfl, ?_⟩) h0 ?_
                rotate_left
                · intro W hW
                  go_simp
                  all_goals with_reducible rfl
                try simp only [Act.put, List.setIfInBounds_toArray, List.set_cons_zero, List.set_cons_succ]
                refine wpAnyH_take (i := 5) (v := ?_) (by rw [List.getElem?_toArray]; rfl) (by kernel_rfl) (by kernel_rfl) (by kernel_rfl) (by exact fun _ _ _ h => h) (Or.inl ⟨by rfl, ?_⟩) h0 ?_
                rotate_left
                · intro W hW
                  go_simp
                  all_goals with_reducible rfl
                try simp only [Act.put, List.setIfInBounds_toArray, List.set_cons_zero, List.set_cons_succ]
                refine wpAnyH_take (i := 6) (v := ?_) (by rw [List.getElem?_toArray]; rfl) (by kernel_rfl) (by kernel_rfl) (by kernel_rfl) (by exact fun _ _ _ h => h) (Or.inl ⟨by rfl, ?_⟩) h0 ?_
                rotate_left
                · intro W hW
                  obtain ⟨f1, f2⟩ := hW
                  go_simp
                  all_goals with_reducible rfl
                try simp only [Act.put, List.setIfInBounds_toArray, List.set_cons_zero, List.set_cons_succ]
                refine wpAnyH_ready (rs := [1]) (by kernel_rfl) (by simp) ?_
                refine AllReadyH.cons (by rw [List.getElem?_toArray]; rfl) (fun K hK => ?_) AllReadyH.nil
                rw [if_pos (by rfl)]
                have KK := RHash_ok (w := wr.drew) (hR.out.drewN 1) hF hf HZ.out
                go_wp2_with fail
                refine KK.mono ?_
                rintro e w5 ⟨rfl, hr5, hc5⟩
                clear KK
                go_wp2_with fail
                have HNR : Hid (RrV w5 p2 v2 ALL (P0 + 32 * (m + 1))) := by
                  show RrV _ _ _ _ _
                  rw [show P0 + 32 * (m + 1) = P0 + 32 * m + 32 by omega]
                  exact hr5
                have HNC : Hid (Chg WA w5 [p2]) := Lib.hid (hC.out.drew.trans hc5 (fun x hx _ => hx))
                clear hr5 hR hC
                refine hK.out _ _ (⟨cell_chg hc5 h0.1 (by show b7 ∉ [p2]; simp; omega), by rw [← h0.2]; unfold rowOf; rw [hc5.block bu (by have := HBr.out.size; show bu < wr.heap.size; omega) (by simp; omega)]⟩) (fun h1 => ?_)
                clear hK K
                try simp only [Act.put, List.setIfInBounds_toArray, List.set_cons_zero, List.set_cons_succ]
                refine wpAnyH_take (i := 7) (v := ?_) (by rw [List.getElem?_toArray]; rfl) (by kernel_rfl) (by kernel_rfl) (by kernel_rfl) (by exact fun _ _ _ h => h) (Or.inl ⟨by rfl, ?_⟩) h1 ?_
                rotate_left
                · intro W hW
                  go_simp
                  all_goals with_reducible rfl
                try simp only [Act.put, List.setIfInBounds_toArray, List.set_cons_zero, List.set_cons_succ]
                refine wpAnyH_done (by kernel_rfl) ?_ _
                go_wp2_with fail
                refine ⟨⟨m + 1, by go_num, by omega, HNR, HNC⟩, by simp [intOf]; omega⟩
              · obtain rfl : m = nh := by omega
                have HN : Hid (RrV wr p2 v2 ALL (allB (its.take (i + 1))).length) := by
                  show RrV _ _ _ _ _
                  rw [HN0.out, hsOf_flat (by obtain ⟨_, _, _, e2, _⟩ := R3.out; exact e2), Nat.mul_comm _ 32]
                  exact hR.out
                clear hR hC
                go_wp2_with fail
                refine ⟨⟨i + 1, by go_num, by omega, HN, HBr⟩, by simp [intOf]; omega⟩
          have hb : It.bytes ⟨kx, us, nw, zw, nh, zh, bs⟩ = blobs bs := by unfold It.bytes; rw [if_neg kc1, if_neg kc2, if_neg kc3]
          have HAT2 := HAT.out
          have HNX2 := HNX.out
          rw [hb] at HAT2 HNX2
          have HA := Lib.hid HAT2
          have HN0 := Lib.hid HNX2
          clear HAT HNX HAT2 HNX2 hb
          have e1 : (kx == 0) = false := by simpa using kc1
          have e2 : (kx == 1) = false := by simpa using kc2
          have e3 : (kx == 2) = false := by simpa using kc3
          clear kc1 kc2 kc3
          go_wp2_with fail
          generalize wo.alloc (.cells #[.int .i64 kx, .slice q1 us.length k1, .slice q2 nw k2, .slice q3 nh k3, .slice q4 bs.length k4] 33) = WA at *
          generalize wo.heap.size = b7 at *
          clear c0 c1 c2 c3 c4
          go_loopw [11] (fun iv wr => ∃ m : Nat, iv = .int .i64 m ∧ m ≤ bs.length ∧ Hid (RrV wr p2 v2 ALL (P0 + (blobs (bs.take m)).length)) ∧ Hid (Chg WA wr [p2])) (fun iv _ => bs.length - (intOf iv).toNat)
          case atStart => exact ⟨0, rfl, by omega, (by simpa [blobs] using HRA.out : RrV WA p2 v2 ALL (P0 + (blobs (bs.take 0)).length)), Chg.refl _ _⟩
          case round =>
            clear HRA
            obtain ⟨m, rfl, hm, hR, hC⟩ := hrel
            have HBr := Lib.hid (below_chg HBA.out hC.out HP2 (Nat.le_refl _))
            have d0 : wr.cell? ⟨b7, 4, none⟩ = _ := cell_chg hC.out ((Joins.cell_of_block HA7.out 4).trans rfl) (by show b7 ∉ [p2]; simp; omega)
            by_cases hmt : m < bs.length
            · obtain ⟨bu, offu, r, mm, kk, -, rfl, -, hcu0, rfl, hrd0, -⟩ := R4.out.at hmt
              have hbu := lt_of_cell hcu0
              have hbu' : bu < w.heap.size := hbu
              have hcu := (HBr.out.cell hbu).trans hcu0
              have hrd := hrd0.on HBr.out
              have hrb : (bs.getD m []) ≠ [] → ∀ g, (Value.slice r (bs.getD m []).length kk).ownBlock = some g → g < w.heap.size := fun hn g hg => by
                obtain ⟨q', c', e', hx'⟩ := hrd0
                rcases hx' with hx' | ⟨b', o', rfl, hx'⟩
                · exact absurd hx' hn
                · simp only [Value.slice.injEq] at e'
                  rw [e'.1] at hg
                  have : b' = g := by simpa [Value.ownBlock] using hg
                  subst this
                  exact lt_of_cell (hx' 0 (List.length_pos_iff.2 hn))
              have hfl := flat_at (fun b : List Int => be8 b.length ++ b) [] hmt
              have hD := drop_in (m := (blobs (bs.take m)).length) HA.out (show blobs bs ++ allB (its.drop (i + 1)) = blobs (bs.take m) ++ ((be8 (bs.getD m []).length ++ bs.getD m []) ++ (blobs (bs.drop (m + 1)) ++ allB (its.drop (i + 1)))) by unfold blobs; rw [hfl, List.append_assoc, List.append_assoc]) rfl
              have hlb : (bs.getD m []).length ≤ 65536 := by
                have e := congrArg List.length hD
                simp only [List.length_drop, List.length_append] at e
                omega
              have HT := Lib.hid (blobs_len hmt)
              have HZ := Lib.hid hD
              clear hD hfl hbu hcu0 hrd0
              obtain ⟨y, hy⟩ : ∃ y, bs.getD m [] = y := ⟨_, rfl⟩
              rw [hy] at hcu HZ hrd hlb HT hrb
              clear hy
              have Q := Lib.hid (And.intro d0 (And.intro hcu hrd))
              go_wp2_with fail
              refine wp_region_held_drew (S := fun W => W.cell? ⟨b7, 4, none⟩ = some (.slice (some ⟨bu, offu, none⟩) bs.length k4) ∧ W.cell? ⟨bu, offu + m, none⟩ = some (.slice r y.length kk) ∧ Rd W (.slice r y.length kk) y) (by kernel_rfl) (Q.out) (fun h0 => ?_)
              refine wpAnyH_take (i := 0) (v := ?_) (by rw [List.getElem?_toArray]; rfl) (by kernel_rfl) (by kernel_rfl) (by kernel_rfl) (by exact fun _ _ _ h => h) (Or.inl ⟨by rfl, ?_⟩) h0 ?_
              rotate_left
              · intro W hW
                go_simp
                all_goals with_reducible rfl
              try simp only [Act.put, List.setIfInBounds_toArray, List.set_cons_zero, List.set_cons_succ]
              refine wpAnyH_take (i := 3) (v := ?_) (by rw [List.getElem?_toArray]; rfl) (by kernel_rfl) (by kernel_rfl) (by kernel_rfl) (by exact fun _ _ _ h => h) (Or.inl ⟨by rfl, ?_⟩) h0 ?_
              rotate_left
              · intro W hW
                go_simp
                all_goals with_reducible rfl
              try simp only [Act.put, List.setIfInBounds_toArray, List.set_cons_zero, List.set_cons_succ]
              refine wpAnyH_take (i := 4) (v := ?_) (by rw [List.getElem?_toArray]; rfl) (by kernel_rfl) (by kernel_rfl) (by kernel_rfl) (by exact fun _ _ _ h => h) (Or.inl ⟨by rfl, ?_⟩) h0 ?_
              rotate_left
              · intro W hW
                have f1 := hW.1
                go_simp
                all_goals with_reducible rfl
              try simp only [Act.put, List.setIfInBounds_toArray, List.set_cons_zero, List.set_cons_succ]
              refine wpAnyH_take (i := 5) (v := ?_) (by rw [List.getElem?_toArray]; rfl) (by kernel_rfl) (by kernel_rfl) (by kernel_rfl) (by exact fun _ _ _ h => h) (Or.inl ⟨by rfl, ?_⟩) h0 ?_
              rotate_left
              · intro W hW
                go_simp
                all_goals with_reducible rfl
              try simp only [Act.put, List.setIfInBounds_toArray, List.set_cons_zero, List.set_cons_succ]
              refine wpAnyH_take (i := 6) (v := ?_) (by rw [List.getElem?_toArray]; rfl) (by kernel_rfl) (by kernel_rfl) (by kernel_rfl) (by exact fun _ _ _ h => h) (Or.inl ⟨by rfl, ?_⟩) h0 ?_
              rotate_left
              · intro W hW
                go_simp
                all_goals with_reducible rfl
              try simp only [Act.put, List.setIfInBounds_toArray, List.set_cons_zero, List.set_cons_succ]
              refine wpAnyH_take (i := 7) (v := ?_) (by rw [List.getElem?_toArray]; rfl) (by kernel_rfl) (by kernel_rfl) (by kernel_rfl) (by exact fun _ _ _ h => h) (Or.inl ⟨by rfl, ?_⟩) h0 ?_
              rotate_left
              · intro W hW
                have f2 := hW.2.1
                go_simp
                all_goals with_reducible rfl
              try simp only [Act.put, List.setIfInBounds_toArray, List.set_cons_zero, List.set_cons_succ]
              refine wpAnyH_take (i := 8) (v := ?_) (by rw [List.getElem?_toArray]; rfl) (by kernel_rfl) (by kernel_rfl) (by kernel_rfl) (by exact fun _ _ _ h => h) (Or.inl ⟨by rfl, ?_⟩) h0 ?_
              rotate_left
              · intro W hW
                have ca := (hW.2.2).str (P := Try.prog) Try.underlying26 Try.underlying5 Try.underlying9
                go_simp
                all_goals with_reducible rfl
              try simp only [Act.put, List.setIfInBounds_toArray, List.set_cons_zero, List.set_cons_succ]
              refine wpAnyH_ready (rs := [1]) (by kernel_rfl) (by simp) ?_
              refine AllReadyH.cons (by rw [List.getElem?_toArray]; rfl) (fun K hK => ?_) AllReadyH.nil
              rw [if_pos (by rfl)]
              have KK := RBlob_ok (w := wr.drew) (hR.out.drewN 1) HX.out HZ.out hlb
              go_wp2_with fail
              refine KK.mono ?_
              rintro e w5 ⟨q5, k5, rfl, ho5, hr5, hc5, -⟩
              clear KK
              go_wp2_with fail
              have R5 := Lib.hid (rd_of_row ho5)
              clear ho5
              have HNR : Hid (RrV w5 p2 v2 ALL (P0 + (blobs (bs.take (m + 1))).length)) := by
                show RrV _ _ _ _ _
                rw [HT.out, show P0 + ((blobs (bs.take m)).length + 8 + y.length) = P0 + (blobs (bs.take m)).length + 8 + y.length by omega]
                exact hr5
              have HNC : Hid (Chg WA w5 [p2]) := Lib.hid (hC.out.drew.trans hc5 (fun x hx _ => hx))
              clear hr5 hR hC
              refine hK.out _ _ (⟨cell_chg hc5 h0.1 (by show b7 ∉ [p2]; simp; omega), cell_chg hc5 h0.2.1 (by show bu ∉ [p2]; simp; omega), h0.2.2.chg hc5 (fun hn g hg _ => by have := hrb hn g hg; simp; omega)⟩) (fun h1 => ?_)
              clear hK K
              try simp only [Act.put, List.setIfInBounds_toArray, List.set_cons_zero, List.set_cons_succ]
              have g1 := And.intro h1 R5.out
              refine wpAnyH_strong (S' := fun W => (W.cell? ⟨b7, 4, none⟩ = some (.slice (some ⟨bu, offu, none⟩) bs.length k4) ∧ W.cell? ⟨bu, offu + m, none⟩ = some (.slice r y.length kk) ∧ Rd W (.slice r y.length kk) y) ∧ Rd W (.slice q5 y.length k5) y) (fun _ h => h.1) ?_
              refine wpAnyH_take (i := 2) (v := ?_) (by rw [List.getElem?_toArray]; rfl) (by kernel_rfl) (by kernel_rfl) (by kernel_rfl) (by exact fun _ _ _ h => h) (Or.inl ⟨by rfl, ?_⟩) g1 ?_
              rotate_left
              · intro W hW
                have ca := (hW.2).str (P := Try.prog) Try.underlying26 Try.underlying5 Try.underlying9
                go_simp
                all_goals with_reducible rfl
              try simp only [Act.put, List.setIfInBounds_toArray, List.set_cons_zero, List.set_cons_succ]
              refine wpAnyH_take (i := 9) (v := ?_) (by rw [List.getElem?_toArray]; rfl) (by kernel_rfl) (by kernel_rfl) (by kernel_rfl) (by exact fun _ _ _ h => h) (Or.inl ⟨by rfl, ?_⟩) g1 ?_
              rotate_left
              · intro W hW
                go_simp
                all_goals with_reducible rfl
              try simp only [Act.put, List.setIfInBounds_toArray, List.set_cons_zero, List.set_cons_succ]
              refine wpAnyH_done (by kernel_rfl) ?_ _
              go_wp2_with fail
              refine ⟨⟨m + 1, by go_num, by omega, HNR, HNC⟩, by simp [intOf]; omega⟩
            · obtain rfl : m = bs.length := by omega
              have HN : Hid (RrV wr p2 v2 ALL (allB (its.take (i + 1))).length) := by
                show RrV _ _ _ _ _
                rw [HN0.out, show (blobs bs).length = (blobs (bs.take bs.length)).length by rw [List.take_length]]
                exact hR.out
              clear hR hC
              go_wp2_with fail
              refine ⟨⟨i + 1, by go_num, by omega, HN, HBr⟩, by simp [intOf]; omega⟩
        · obtain rfl : i = its.length := by omega
          have hR2 := hR.out
          rw [List.take_length, hAll.out] at hR2
          have HR2 := Lib.hid hR2
          clear hR hR2
          go_wp2_with fail
          refine (Done_all HR2.out).mono ?_
          rintro e w7 ⟨m, rfl, rfl⟩
          have HBd := Lib.hid (below_drewN hB.out m)
          go_wp2_with fail
          refine (num_any _ _).mono ?_
          rintro e wx ⟨rfl, rfl⟩
          go_wp2_with fail
          go_ret
          exact ⟨rfl, HBd.out⟩
end Go.Proofs.Ytigpiejjblfenaa
