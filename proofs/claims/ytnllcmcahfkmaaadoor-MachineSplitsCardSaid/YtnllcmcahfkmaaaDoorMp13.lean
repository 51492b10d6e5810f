/-
  Package machine: a state's hash, by the root of its words.; A literal slice of one row.; The program's code and context, made of the document's.; basculelaw08.State: the program's state.; Package machine: a state's hash.; A run of some steps and then of more is the run of all of them.; The law's own run of four.
-/
import Derived.Test.YtnllcmcahfkmaaaDoorMp1
import Derived.Test.YtnllcmcahfkmaaaDoorMp2
import Derived.Test.YtnllcmcahfkmaaaDoorMp5
import Derived.Test.YtnllcmcahfkmaaaDoorMp6
import Derived.Test.YtnllcmcahfkmaaaDoorMp12
namespace Go.Proofs.YtnllcmcahfkmaaaDoor
open Go.RowKit
set_option maxRecDepth 100000

def machS : ByteArray := ⟨#[109, 97, 99, 104, 105, 110, 101]⟩
theorem mach_sn : sn machS = [109, 97, 99, 104, 105, 110, 101] := by rfl
def hdM (s : Ms) : List Int := [IntKind.u64.wrap s.pc, s.gas, IntKind.u64.wrap s.st, IntKind.u64.wrap s.e, (s.stk.length : Int)]
def hbB (s : Ms) (X : List Int) : List Int := (nums (hdM s) ++ nums s.stk) ++ X
/-- A state's hash, its words being those of the root X. -/
def hbH (s : Ms) (X : List Int) : List Int := sha (frm (sn machS) [hbB s X])
theorem nums_bytes : ∀ ns : List Int, Bytes (nums ns)
  | [] => fun x hx => by cases hx
  | n :: ns => fun x hx => by
    simp only [nums, List.flatMap_cons, List.mem_append] at hx
    rcases hx with hx | hx
    · exact be8_bytes n x hx
    · exact nums_bytes ns x hx
theorem hbB_bytes {s : Ms} {X : List Int} (hX : Bytes X) : Bytes (hbB s X) := fun x hx => by
  rcases List.mem_append.1 hx with hx | hx
  · rcases List.mem_append.1 hx with hx | hx
    · exact nums_bytes _ x hx
    · exact nums_bytes _ x hx
  · exact hX x hx
theorem hbB_len {s : Ms} {X : List Int} (hX : X.length = 32) : (hbB s X).length = 72 + 8 * s.stk.length := by
  simp only [hbB, List.length_append, nums_len, hdM, hX, List.length_cons, List.length_nil]
  omega
theorem one_rdlM {w : World} {T : TypeId} {u : Value} {xs : List Int} (h : Rd w u xs) : RdL (w.alloc (.cells #[u] T)) (.slice (some ⟨w.heap.size, 0, none⟩) 1 1) [xs] [] := by
  refine ⟨_, _, rfl, .inr ⟨w.heap.size, 0, rfl, by simp, fun i hi => ?_⟩⟩
  obtain rfl : i = 0 := by simpa using hi
  exact ⟨u, by rw [Joins.cell_of_block (heap_alloc_new w _)]; rfl, h.on ((Below.refl _ _).alloc (Nat.le_refl _) _), fun _ _ _ => by simp⟩
set_option maxHeartbeats 16000000 in
theorem hashBy_any {w : World} {s : Ms} {X : List Int} {qs : Option Addr} {cs : Nat} (hT : Tbl w) (_w16 : s.wds.length = 16) (hs : RdU w (.slice qs s.stk.length cs) s.stk) (hcap : s.stk.length ≤ cs ∧ cs ≤ maxLen) (hl : s.stk.length ≤ 1000) (lX : X.length = 32) (bX : Bytes X) :
    Calls Tryd.prog 16 #[.agg (stRow s qs cs).toArray, .agg (hc X).toArray] w fun e w' => e = .returned (.agg (hc (hbH s X)).toArray) ∧ Below w.heap.size w w' := by
  obtain ⟨i0, hi, hz0, hz1, hz2⟩ := info_parts Tryd.infoU8
  replace hi := Lib.hid hi
  replace hz0 := Lib.hid hz0
  replace hz1 := Lib.hid hz1
  replace hz2 := Lib.hid hz2
  have b1 : Below w.heap.size w (w.alloc (.cells (stRow s qs cs).toArray 34)) := (Below.refl _ _).alloc (Nat.le_refl _) _
  have b2 := b1.alloc (by simp) (.cells (hc X).toArray 43)
  have b3 := b2.alloc (by simp; omega) (.cells (hc zero32).toArray 43)
  have K1 := (heap_alloc_new w (.cells (stRow s qs cs).toArray 34))
  have H1 := HashAt.new (w.alloc (.cells (stRow s qs cs).toArray 34)) X
  have H2 := HashAt.new ((w.alloc (.cells (stRow s qs cs).toArray 34)).alloc (.cells (hc X).toArray 43)) zero32
  simp only [World.size_alloc] at H1 H2
  have H1' := H1.alloc (.cells (hc zero32).toArray 43)
  have z3 : (((w.alloc (.cells (stRow s qs cs).toArray 34)).alloc (.cells (hc X).toArray 43)).alloc (.cells (hc zero32).toArray 43)).heap.size = w.heap.size + 3 := by simp
  have K3 : (((w.alloc (.cells (stRow s qs cs).toArray 34)).alloc (.cells (hc X).toArray 43)).alloc (.cells (hc zero32).toArray 43)).heap[w.heap.size]? = some (.cells (stRow s qs cs).toArray 34 (0, 0)) := by
    rw [Below.heap_alloc _ _ _ (by simp; omega), Below.heap_alloc _ _ _ (by simp)]; exact K1
  obtain ⟨w3, hw3⟩ : ∃ x, ((w.alloc (.cells (stRow s qs cs).toArray 34)).alloc (.cells (hc X).toArray 43)).alloc (.cells (hc zero32).toArray 43) = x := ⟨_, rfl⟩
  rw [hw3] at b3 H1' H2 z3 K3
  have HW3 := Lib.hid hw3
  have e0 := (Joins.cell_of_block K3 0).trans (rfl : _ = some (Value.int .i64 s.pc))
  have e1 := (Joins.cell_of_block K3 1).trans (rfl : _ = some (Value.int .u64 s.gas))
  have e2 := (Joins.cell_of_block K3 2).trans (rfl : _ = some (Value.int .i64 s.st))
  have e3 := (Joins.cell_of_block K3 3).trans (rfl : _ = some (Value.int .i64 s.e))
  have e4 := (Joins.cell_of_block K3 4).trans (rfl : _ = some (Value.slice qs s.stk.length cs))
  have HB3 := Lib.hid b3
  have HX3 := Lib.hid H1'
  have HZ3 := Lib.hid H2
  have HS3 := Lib.hid (hs.on b3)
  have HT3 := Lib.hid (hT.on b3 hT.pos)
  have HCAP := Lib.hid hcap
  have HLE : Hid (s.stk.length ≤ 4096) := Nat.le_trans hl (by decide)
  have HL1 := Lib.hid hl
  have LX := Lib.hid lX
  have BX := Lib.hid bX
  have HDE : Hid (hdM s = [IntKind.u64.wrap s.pc, s.gas, IntKind.u64.wrap s.st, IntKind.u64.wrap s.e, (s.stk.length : Int)]) := rfl
  have lxx := hc_len X
  clear hT hs hcap bX b1 b2 b3 K1 H1 H2 H1'
  go_enter Tryd.func16, Tryd.ntmps16
  go_upto_region 1 with fail
  try rw [hw3]
  clear hw3 K3
  go_wp2_with fail
  clear e0 e1 e2 e3
  have b4 : Below w3.heap.size w3 (w3.alloc (.cells #[.int .u64 (IntKind.u64.wrap s.pc), .int .u64 s.gas, .int .u64 (IntKind.u64.wrap s.st), .int .u64 (IntKind.u64.wrap s.e), .int .u64 (s.stk.length : Int)] 23)) := (Below.refl _ _).alloc (Nat.le_refl _) _
  have K4 := heap_alloc_new w3 (.cells #[.int .u64 (IntKind.u64.wrap s.pc), .int .u64 s.gas, .int .u64 (IntKind.u64.wrap s.st), .int .u64 (IntKind.u64.wrap s.e), .int .u64 (s.stk.length : Int)] 23)
  have ZS : Hid (w.heap.size + 4 = (w3.alloc (.cells #[.int .u64 (IntKind.u64.wrap s.pc), .int .u64 s.gas, .int .u64 (IntKind.u64.wrap s.st), .int .u64 (IntKind.u64.wrap s.e), .int .u64 (s.stk.length : Int)] 23)).heap.size) := by
    show _ = _
    simp [z3]
  obtain ⟨w4, hw4⟩ : ∃ x, w3.alloc (.cells #[.int .u64 (IntKind.u64.wrap s.pc), .int .u64 s.gas, .int .u64 (IntKind.u64.wrap s.st), .int .u64 (IntKind.u64.wrap s.e), .int .u64 (s.stk.length : Int)] 23) = x := ⟨_, rfl⟩
  rw [hw4] at b4 K4 ZS ⊢
  rw [z3] at K4
  obtain ⟨HD, hHD⟩ : ∃ HD, hdM s = HD := ⟨_, rfl⟩
  have HHD := Lib.hid hHD
  have HD5 : Hid (HD.length = 5) := by show _ = _; rw [← hHD]; rfl
  have HU : Hid (RdU w4 (.slice (some ⟨w.heap.size + 3, 0, none⟩) 5 5) HD) := by
    show RdU _ _ _
    rw [← hHD]
    refine ⟨_, _, rfl, .inr ⟨_, _, rfl, fun i hi => ?_⟩⟩
    rw [Joins.cell_of_block K4]
    have hi5 : i < 5 := hi
    rcases i with _ | _ | _ | _ | _ | i
    all_goals first | rfl | omega
  have HSK := Lib.hid (HS3.out.on b4)
  have C4 := Lib.hid ((b4.cell (lt_of_cell e4)).trans e4)
  have HX4 := Lib.hid (HX3.out.on b4)
  have HZ4 := Lib.hid (HZ3.out.on b4)
  have B4 := Lib.hid (HB3.out.trans (b4.mono HB3.out.size))
  have HT4 := Lib.hid (HT3.out.on b4 HT3.out.pos)
  obtain ⟨ns, hns⟩ : ∃ ns, s.stk.length = ns := ⟨_, rfl⟩
  have HNS := Lib.hid hns
  simp only [hns] at HSK HCAP HLE HL1 C4 ⊢
  obtain ⟨m5, hm5⟩ : ∃ m, (nums HD).length = m := ⟨_, rfl⟩
  obtain ⟨m6, hm6⟩ : ∃ m, (nums s.stk).length = m := ⟨_, rfl⟩
  have k5 : m5 = 40 := by rw [← hm5, nums_len, HD5.out]
  have k6 : m6 ≤ 8000 := by have := HL1.out; rw [← hm6, nums_len, hns]; omega
  have HM5 := Lib.hid hm5
  have HM6 := Lib.hid hm6
  have KM := Lib.hid (show m5 = 40 ∧ m6 ≤ 8000 from ⟨k5, k6⟩)
  clear b4 K4 hw4 e4 HS3 HX3 HZ3 HB3 HT3 z3 HW3 hHD HDE hns hm5 hm6 k5 k6
  refine wp_region_held_drew (S := fun W => Below w4.drew.heap.size w4.drew W) (by kernel_rfl) (Below.refl _ _) (fun h0 => ?_)
  replace HU : Hid (RdU w4.drew (.slice (some ⟨w.heap.size + 3, 0, none⟩) 5 5) HD) := HU.out
  replace HSK : Hid (RdU w4.drew (.slice qs ns cs) s.stk) := HSK.out
  replace C4 : Hid (w4.drew.cell? ⟨w.heap.size, 4, none⟩ = some (.slice qs ns cs)) := C4.out
  replace HX4 : Hid (HashAt w4.drew (w.heap.size + 1) X) := HX4.out
  replace HZ4 : Hid (HashAt w4.drew (w.heap.size + 2) zero32) := HZ4.out
  replace B4 : Hid (Below w.heap.size w w4.drew) := B4.out.drew
  replace HT4 : Hid (Tbl w4.drew) := HT4.out
  replace ZS : Hid (w.heap.size + 4 = w4.drew.heap.size) := ZS.out
  generalize w4.drew = w4 at *
  refine wpAnyH_take (i := 0) (v := ?_) (by rw [List.getElem?_toArray]; rfl) (by kernel_rfl) (by kernel_rfl) (by kernel_rfl) (by exact fun _ _ _ h => h) (Or.inl ⟨by rfl, ?_⟩) h0 ?_
  rotate_left
  · intro W hW
    go_simp
    all_goals with_reducible rfl
  try simp only [Act.put, List.setIfInBounds_toArray, List.set_cons_zero, List.set_cons_succ]
  refine wpAnyH_take (i := 2) (v := ?_) (by rw [List.getElem?_toArray]; rfl) (by kernel_rfl) (by kernel_rfl) (by kernel_rfl) (by exact fun _ _ _ h => h) (Or.inl ⟨by rfl, ?_⟩) h0 ?_
  rotate_left
  · intro W hW
    go_simp
    all_goals with_reducible rfl
  try simp only [Act.put, List.setIfInBounds_toArray, List.set_cons_zero, List.set_cons_succ]
  refine wpAnyH_take (i := 3) (v := ?_) (by rw [List.getElem?_toArray]; rfl) (by kernel_rfl) (by kernel_rfl) (by kernel_rfl) (by exact fun _ _ _ h => h) (Or.inl ⟨by rfl, ?_⟩) h0 ?_
  rotate_left
  · intro W hW
    have cc := (hW.cell (lt_of_cell C4.out)).trans C4.out
    go_simp
    all_goals with_reducible rfl
  try simp only [Act.put, List.setIfInBounds_toArray, List.set_cons_zero, List.set_cons_succ]
  refine wpAnyH_ready (rs := [1]) (by kernel_rfl) (by simp) ?_
  refine AllReadyH.cons (by rw [List.getElem?_toArray]; rfl) (fun K hK => ?_) AllReadyH.nil
  rw [if_pos (by rfl)]
  go_wp2_with fail
  have KN := numbers_any (xs := HD) (q := some ⟨w.heap.size + 3, 0, none⟩) (c := 5) (by rw [HD5.out]; exact HU.out.on h0) (by rw [HD5.out]; exact ⟨by decide, by unfold maxLen; decide⟩) (by rw [HD5.out]; decide)
  rw [HD5.out] at KN
  refine KN.mono ?_
  clear KN
  rintro e w5 ⟨q5, k5, rfl, hu5⟩
  rw [HM5.out] at hu5
  try rw [HM5.out]
  have U5 := Lib.hid hu5
  have S5 : Below w4.heap.size w4 w5 := h0.trans (hu5.2.2.1.mono h0.size)
  clear hu5
  go_wp2_with fail
  refine hK.out _ _ (S5) (fun h1 => ?_)
  clear hK K
  try simp only [Act.put, List.setIfInBounds_toArray, List.set_cons_zero, List.set_cons_succ]
  refine wpAnyH_ready (rs := [4]) (by kernel_rfl) (by simp) ?_
  refine AllReadyH.cons (by rw [List.getElem?_toArray]; rfl) (fun K hK => ?_) AllReadyH.nil
  rw [if_pos (by rfl)]
  go_wp2_with fail
  have KN := numbers_any (xs := s.stk) (q := qs) (c := cs) (by rw [HNS.out]; exact HSK.out.on h1) (by rw [HNS.out]; exact HCAP.out) (by rw [HNS.out]; exact HLE.out)
  rw [HNS.out] at KN
  refine KN.mono ?_
  clear KN
  rintro e w6 ⟨q6, k6, rfl, hu6⟩
  rw [HM6.out] at hu6
  try rw [HM6.out]
  have U6 := Lib.hid hu6
  have S6 : Below w4.heap.size w4 w6 := h1.trans (hu6.2.2.1.mono h1.size)
  have O5 := own_on U5.out.2.1 hu6.2.2.1
  rw [HM5.out] at O5
  replace O5 := Lib.hid O5
  clear hu6
  go_wp2_with fail
  refine hK.out _ _ (S6) (fun h2 => ?_)
  clear hK K
  try simp only [Act.put, List.setIfInBounds_toArray, List.set_cons_zero, List.set_cons_succ]
  refine wpAnyH_ready (rs := [5]) (by kernel_rfl) (by simp) ?_
  refine AllReadyH.cons (by rw [List.getElem?_toArray]; rfl) (fun K hK => ?_) AllReadyH.nil
  rw [if_pos (by rfl)]
  have SR := U6.out.rd.src (P := Tryd.prog) Tryd.underlying67
  rw [HM6.out] at SR
  refine wp_append_row _ _ rfl Tryd.underlying67 hi.out hz0.out hz1.out hz2.out rfl O5.out SR ?b1 ?b2 ?_
  case b1 => have := KM.out; unfold maxLen; omega
  case b2 => have := KM.out; omega
  intro q7 k7 w7 own7 grow7 fr7
  have S7 : Below w4.heap.size w4 w7 := h2.grown grow7 h2.size (fun j hj => U5.out.2.2.2 j hj)
  have O7 := Lib.hid own7
  have F7 : Hid (∀ g, (Value.slice q7 (m5 + m6) k7).ownBlock = some g → w4.heap.size ≤ g) := fun g hg => by
    rcases fr7 with e | e
    · rw [e] at hg; exact U5.out.2.2.2 g hg
    · rw [e] at hg
      have := h2.size
      simp only [Option.some.injEq] at hg
      omega
  clear own7 grow7 fr7 SR
  refine hK.out _ _ (S7) (fun h3 => ?_)
  clear hK K
  try simp only [Act.put, List.setIfInBounds_toArray, List.set_cons_zero, List.set_cons_succ]
  refine wpAnyH_take (i := 6) (v := ?_) (by rw [List.getElem?_toArray]; rfl) (by kernel_rfl) (by kernel_rfl) (by kernel_rfl) (by exact fun _ _ _ h => h) (Or.inl ⟨by rfl, ?_⟩) h3 ?_
  rotate_left
  · intro W hW
    go_simp
    all_goals with_reducible rfl
  try simp only [Act.put, List.setIfInBounds_toArray, List.set_cons_zero, List.set_cons_succ]
  refine wpAnyH_done (by kernel_rfl) ?_ _
  have HX7 := HX4.out.on h3
  have HZ7 := Lib.hid (HZ4.out.on h3)
  have HT7 := Lib.hid (HT4.out.on h3 HT4.out.pos)
  have RX7 := HX7.rd LX.out
  have SX := RX7.src (P := Tryd.prog) Tryd.underlying67
  rw [LX.out] at SX
  replace SX := Lib.hid SX
  have H37 := Lib.hid h3
  have LZ7 : Hid (w.heap.size + 4 ≤ w7.heap.size) := by
    show _ ≤ _
    have := h3.size
    have := ZS.out
    omega
  clear h0 h1 h2 h3 S5 S6 S7 RX7 HX7
  go_wp2_with (at_builtin; refine wpList_append_row rfl _ _ rfl Tryd.underlying67 hi.out hz0.out hz1.out hz2.out rfl O7.out SX.out ?b3 ?b4 ?_)
  case b3 => have := KM.out; unfold maxLen; omega
  case b4 => have := KM.out; omega
  intro q9 k9 w9 own9 grow9 fr9
  have B9 : Below w4.heap.size w4 w9 := H37.out.grown grow9 H37.out.size (fun j hj => F7.out j hj)
  have RD9 : Rd w9 (.slice q9 (m5 + m6 + 32) k9) (hbB s X) := by
    refine rd_of_row (e := 5) (n := m5 + m6 + 32) ?_
    rw [hbB, bc_append, bc_append, HHD.out, List.append_assoc]
    simpa only [List.append_assoc] using own9
  have RL := one_rdlM (T := 67) RD9
  have HRL := Lib.hid RL
  have b10 : Below w9.heap.size w9 (w9.alloc (.cells #[.slice q9 (m5 + m6 + 32) k9] 67)) := (Below.refl _ _).alloc (Nat.le_refl _) _
  have B10 := Lib.hid (B9.trans (b10.mono B9.size))
  have HT10 := Lib.hid (HT4.out.on B10.out HT4.out.pos)
  have HZ10 := Lib.hid (HZ4.out.on B10.out)
  have LB : Hid ((hbB s X).length ≤ 9000) := by
    show _ ≤ _
    have := HL1.out
    rw [hbB_len LX.out, HNS.out]
    omega
  have HBB := Lib.hid (hbB_bytes (s := s) BX.out)
  have HHH := Lib.hid (show hbH s X = sha (frm (sn machS) [hbB s X]) from rfl)
  clear own9 grow9 fr9 B9 RD9 RL b10
  go_wp2_with fail
  refine (Tagged_any (s := machS) HRL.out HT10.out (by decide) (cut_small (by decide)) (by have := LB.out; rw [frm_len, mach_sn]; simp [blobs]; omega) (frm_bytes (sn_bytes _) (by rw [mach_sn]; decide) (fun b hb => by obtain rfl := List.mem_singleton.1 hb; exact HBB.out))).mono ?_
  rintro e w11 ⟨rfl, hb11⟩
  have B11 := B10.out.trans (hb11.mono B10.out.size)
  have H11 := HZ4.out.on B11
  have hlen := sha_len (frm (sn machS) [hbB s X])
  have hth := H11.there zero32_len
  have hput := (H11.put zero32_len hlen).row hlen
  have HX := Lib.hid (below_setCells' (B := w.heap.size) (w.heap.size + 2) (by omega) (hc (sha (frm (sn machS) [hbB s X]))) 0 (B4.out.trans (B11.mono B4.out.size)))
  obtain ⟨Fh, hF⟩ : ∃ Fh, sha (frm (sn machS) [hbB s X]) = Fh := ⟨_, rfl⟩
  rw [hF] at hlen hput HX HHH ⊢
  clear hF hb11 B11 H11
  have lF := hc_len Fh
  go_wp2_with fail
  refine bodyPost_ret (v := .agg (hc Fh).toArray) (by simp [results, Tryd.results16, go_sem, hput, hlen]) rfl ⟨by rw [HHH.out], HX.out⟩
end Go.Proofs.YtnllcmcahfkmaaaDoor
namespace Go.Proofs.YtnllcmcahfkmaaaDoor
set_option maxRecDepth 100000
open Go.RowKit

theorem fill_atG {place : Nat → Option (Nat × Nat)} {rest : List (Nat × Value)} {i off size : Nat} {v : Value} {pre mid post vs : List Value} (hp : place i = some (off, size)) (hv : v.cells = vs.toArray)
    (h1 : pre.length = off) (h2 : mid.length = size) (h3 : vs.length = size) :
    Instr.fill place (pre ++ (mid ++ post)).toArray ((i, v) :: rest) = Instr.fill place (pre ++ (vs ++ post)).toArray rest := by
  rw [Instr.fill, hp]
  have e1 : v.cells.size = size := by rw [hv]; simpa using h3
  have e2 : off + size ≤ (pre ++ (mid ++ post)).toArray.size := by simp; omega
  have e3 : (decide (v.cells.size ≠ size) || decide (off + v.cells.size > (pre ++ (mid ++ post)).toArray.size)) = false := by
    rw [e1]; simp at e2 ⊢; omega
  simp only [e3]
  rw [if_neg (by simp), hv, fold_put off size vs pre mid post h1 h2 h3]
/-- A new row of one element. -/
theorem run_bs_one {P : Program} {t e : TypeId} {n : Nat} {zs xs : List Value} (w : World) (ht : P.underlying t = some (.slice e)) (hs : (sizeOf e).run P w = .ok n w) (hz : (zeroValue e).run P w = .ok (.agg zs.toArray) w)
    (hn : 0 < n) (hm : n ≤ 65536) (hx : xs.length = n) :
    (Instr.buildSlice t 1 #[(0, .agg xs.toArray)]).run P w = .ok (.slice (some ⟨w.heap.size, 0, none⟩) 1 1) (w.alloc (.cells xs.toArray e)) := by
  have hf : ∀ m : List Value, m.length = n → Instr.fill (fun i => some (i * n, n)) m.toArray #[(0, Value.agg xs.toArray)].toList = some xs.toArray := by
    intro m hm
    have := fill_atG (place := fun i => some (i * n, n)) (rest := []) (i := 0) (off := 0) (size := n) (v := .agg xs.toArray) (pre := []) (mid := m) (post := []) (vs := xs) (by simp) rfl rfl hm hx
    simpa [Instr.fill] using this
  have hf' := hf ((Array.range (1 * n)).map (zs.toArray[· % zs.toArray.size]!)).toList (by simp)
  rw [Array.toArray_toList] at hf'
  unfold Instr.buildSlice
  simp only [Sem.run_bind, run_underlying ht, Result.andThen_ok, hs]
  rw [if_neg (by omega)]
  rw [if_neg (by omega)]
  simp only [Sem.run_bind, Sem.run_pure, Result.andThen_ok, hz, Value.cells]
  rw [hf']
  simp [newRow]
def rowNew (t : TypeId) (ps : Array (Nat × Value)) : Sem Value := Instr.buildSlice t 1 ps
end Go.Proofs.YtnllcmcahfkmaaaDoor
namespace Go.Proofs.YtnllcmcahfkmaaaDoor
set_option maxRecDepth 100000
open Go.RowKit

theorem Tryd.infoIns : (Tryd.prog.info? 47).map (fun i => (i.zero, i.size, i.bytes)) = some (some (.agg #[.int .i64 0, .int .u64 0]), 2, 16) := by kernel_rfl
@[go_sem ↓] theorem Tryd.slice_ins (ps : Array (Nat × Value)) : Instr.buildSlice 37 1 ps = rowNew 37 ps := rfl
theorem Tryd.run_slice_ins (w : World) (a b : Int) :
    (rowNew 37 #[(0, .agg #[.int .i64 a, .int .u64 b])]).run Tryd.prog w = .ok (.slice (some ⟨w.heap.size, 0, none⟩) 1 1) (w.alloc (.cells #[.int .i64 a, .int .u64 b] 47)) :=
  run_bs_one w Tryd.underlying37 (by kernel_rfl) (zs := [.int .i64 0, .int .u64 0]) (by kernel_rfl) (n := 2) (xs := [.int .i64 a, .int .u64 b]) (by decide) (by decide) rfl
set_option maxHeartbeats 4000000 in
theorem Own8_any {w : World} {F : Fp} {L : List Ins} {q : Option Addr} {c : Nat} (hr : RwF 2 ins0 PIs w F q L) (hl : L.length ≤ 1000) :
    Calls Tryd.prog 7 #[.slice q L.length c] w fun e w' => ∃ q' c', e = .returned (.slice q' L.length c') ∧ RwF 2 ins0 PIs w' (fun g => w.heap.size ≤ g) q' L ∧ Below w.heap.size w w' := by
  obtain ⟨i0, hi, hz0, hz1, hz2⟩ := info_parts Tryd.infoIns
  replace hi := Lib.hid hi
  replace hz0 := Lib.hid hz0
  replace hz1 := Lib.hid hz1
  replace hz2 := Lib.hid hz2
  have HR := Lib.hid (fun (W : World) (hb : Below w.heap.size w W) => hr.on PIs_ok (by decide) hb)
  have HL := Lib.hid hl
  have O0 : Hid (OwF 2 ins0 PIs (fun _ => True) w w 47 (.slice none ([] : List Ins).length 0) [] []) := OwF.start (Below.refl _ _)
  clear hr hl
  go_enter Tryd.func7, Tryd.ntmps7
  go_wp2_with fail
  go_loopw [3, 4] (fun ov iv wr => ∃ (q1 : Option Addr) (c1 : Nat) (C : List Ins) (done : List Value), iv = .int .i64 (C.length : Int) ∧ ov = .slice q1 C.length c1 ∧ C.length ≤ L.length ∧ Hid (C = L.take C.length) ∧ Hid (OwF 2 ins0 PIs (fun _ => True) w wr 47 (.slice q1 C.length c1) C done)) (fun _ iv _ => L.length - (intOf iv).toNat)
  case atStart => exact ⟨none, 0, [], [], rfl, rfl, by simp, rfl, O0⟩
  case round =>
    clear O0
    obtain ⟨q1, c1, C, done, rfl, rfl, hil, hCe, hO⟩ := hrel
    by_cases hlt : C.length < L.length
    · obtain ⟨b, off, r, rfl, _, hr2, hrow, hp⟩ := (HR.out _ (Below.refl _ _)).get hlt
      subst hp
      have HTK := Lib.hid (take_snocG (d := ins0) hCe.out hlt)
      obtain ⟨y, hy⟩ : ∃ y, L.getD C.length ins0 = y := ⟨_, rfl⟩
      rw [hy] at hrow HTK
      obtain ⟨op, x⟩ := y
      have g0w := row_cellG hrow rfl (j := 0) (v := .int .i64 op) rfl
      have g1w := row_cellG hrow rfl (j := 1) (v := .int .u64 x) rfl
      rw [Nat.add_zero] at g0w
      have G0 := Lib.hid (fun (W : World) (hb : Below w.heap.size w W) => (hb.cell (lt_of_cell g0w)).trans g0w)
      have G1 := Lib.hid (fun (W : World) (hb : Below w.heap.size w W) => (hb.cell (lt_of_cell g1w)).trans g1w)
      have HLT : Hid (C.length < L.length ∧ L.length ≤ 1000) := ⟨hlt, HL.out⟩
      have b12 : Below wr.heap.size wr wr.drew := (Below.refl _ _).drew
      have O2 := Lib.hid (hO.out.on PIs_ok b12)
      have H1 := O2.out.below
      clear g0w g1w hrow hr2 hCe hO hy b12
      go_wp2_with fail
      refine wp_region_held_drew (S := fun W => Below w.heap.size w W) (by kernel_rfl) (H1) (fun h0 => ?_)
      generalize wr.drew = w2 at *
      refine wpAnyH_take (i := 0) (v := ?_) (by rw [List.getElem?_toArray]; rfl) (by kernel_rfl) (by kernel_rfl) (by kernel_rfl) (by exact fun _ _ _ h => h) (Or.inl ⟨by rfl, ?_⟩) h0 ?_
      rotate_left
      · intro W hW
        go_simp
        all_goals with_reducible rfl
      try simp only [Act.put, List.setIfInBounds_toArray, List.set_cons_zero, List.set_cons_succ]
      refine wpAnyH_take (i := 1) (v := ?_) (by rw [List.getElem?_toArray]; rfl) (by kernel_rfl) (by kernel_rfl) (by kernel_rfl) (by exact fun _ _ _ h => h) (Or.inl ⟨by rfl, ?_⟩) h0 ?_
      rotate_left
      · intro W hW
        go_simp
        all_goals with_reducible rfl
      try simp only [Act.put, List.setIfInBounds_toArray, List.set_cons_zero, List.set_cons_succ]
      refine wpAnyH_take (i := 2) (v := ?_) (by rw [List.getElem?_toArray]; rfl) (by kernel_rfl) (by kernel_rfl) (by kernel_rfl) (by exact fun _ _ _ h => h) (Or.inl ⟨by rfl, ?_⟩) h0 ?_
      rotate_left
      · intro W hW
        go_simp
        all_goals with_reducible rfl
      try simp only [Act.put, List.setIfInBounds_toArray, List.set_cons_zero, List.set_cons_succ]
      refine wpAnyH_take (i := 3) (v := ?_) (by rw [List.getElem?_toArray]; rfl) (by kernel_rfl) (by kernel_rfl) (by kernel_rfl) (by exact fun _ _ _ h => h) (Or.inl ⟨by rfl, ?_⟩) h0 ?_
      rotate_left
      · intro W hW
        go_simp
        all_goals with_reducible rfl
      try simp only [Act.put, List.setIfInBounds_toArray, List.set_cons_zero, List.set_cons_succ]
      refine wpAnyH_take (i := 4) (v := ?_) (by rw [List.getElem?_toArray]; rfl) (by kernel_rfl) (by kernel_rfl) (by kernel_rfl) (by exact fun _ _ _ h => h) (Or.inl ⟨by rfl, ?_⟩) h0 ?_
      rotate_left
      · intro W hW
        go_simp
        all_goals with_reducible rfl
      try simp only [Act.put, List.setIfInBounds_toArray, List.set_cons_zero, List.set_cons_succ]
      refine wpAnyH_take (i := 5) (v := ?_) (by rw [List.getElem?_toArray]; rfl) (by kernel_rfl) (by kernel_rfl) (by kernel_rfl) (by exact fun _ _ _ h => h) (Or.inl ⟨by rfl, ?_⟩) h0 ?_
      rotate_left
      · intro W hW
        have c0 := G0.out W hW
        go_simp
        all_goals with_reducible rfl
      try simp only [Act.put, List.setIfInBounds_toArray, List.set_cons_zero, List.set_cons_succ]
      refine wpAnyH_take (i := 6) (v := ?_) (by rw [List.getElem?_toArray]; rfl) (by kernel_rfl) (by kernel_rfl) (by kernel_rfl) (by exact fun _ _ _ h => h) (Or.inl ⟨by rfl, ?_⟩) h0 ?_
      rotate_left
      · intro W hW
        go_simp
        all_goals with_reducible rfl
      try simp only [Act.put, List.setIfInBounds_toArray, List.set_cons_zero, List.set_cons_succ]
      refine wpAnyH_take (i := 7) (v := ?_) (by rw [List.getElem?_toArray]; rfl) (by kernel_rfl) (by kernel_rfl) (by kernel_rfl) (by exact fun _ _ _ h => h) (Or.inl ⟨by rfl, ?_⟩) h0 ?_
      rotate_left
      · intro W hW
        go_simp
        all_goals with_reducible rfl
      try simp only [Act.put, List.setIfInBounds_toArray, List.set_cons_zero, List.set_cons_succ]
      refine wpAnyH_take (i := 8) (v := ?_) (by rw [List.getElem?_toArray]; rfl) (by kernel_rfl) (by kernel_rfl) (by kernel_rfl) (by exact fun _ _ _ h => h) (Or.inl ⟨by rfl, ?_⟩) h0 ?_
      rotate_left
      · intro W hW
        go_simp
        all_goals with_reducible rfl
      try simp only [Act.put, List.setIfInBounds_toArray, List.set_cons_zero, List.set_cons_succ]
      refine wpAnyH_take (i := 9) (v := ?_) (by rw [List.getElem?_toArray]; rfl) (by kernel_rfl) (by kernel_rfl) (by kernel_rfl) (by exact fun _ _ _ h => h) (Or.inl ⟨by rfl, ?_⟩) h0 ?_
      rotate_left
      · intro W hW
        go_simp
        all_goals with_reducible rfl
      try simp only [Act.put, List.setIfInBounds_toArray, List.set_cons_zero, List.set_cons_succ]
      refine wpAnyH_take (i := 10) (v := ?_) (by rw [List.getElem?_toArray]; rfl) (by kernel_rfl) (by kernel_rfl) (by kernel_rfl) (by exact fun _ _ _ h => h) (Or.inl ⟨by rfl, ?_⟩) h0 ?_
      rotate_left
      · intro W hW
        have c1 := G1.out W hW
        go_simp
        all_goals with_reducible rfl
      try simp only [Act.put, List.setIfInBounds_toArray, List.set_cons_zero, List.set_cons_succ]
      refine wpAnyH_take (i := 11) (v := ?_) (by rw [List.getElem?_toArray]; rfl) (by kernel_rfl) (by kernel_rfl) (by kernel_rfl) (by exact fun _ _ _ h => h) (Or.inl ⟨by rfl, ?_⟩) h0 ?_
      rotate_left
      · intro W hW
        go_simp
        all_goals with_reducible rfl
      try simp only [Act.put, List.setIfInBounds_toArray, List.set_cons_zero, List.set_cons_succ]
      refine wpAnyH_ready (rs := [12]) (by kernel_rfl) (by simp) ?_
      refine AllReadyH.cons (by rw [List.getElem?_toArray]; rfl) (fun K hK => ?_) AllReadyH.nil
      rw [if_pos (by rfl)]
      have ba : Below w2.heap.size w2 (w2.alloc (.cells #[.int .i64 op, .int .u64 x] 47)) := (Below.refl _ _).alloc (Nat.le_refl _) _
      have O3 := Lib.hid (O2.out.on PIs_ok ba)
      have SR := Lib.hid (src_any (P := Tryd.prog) (T := 47) (n := 2) (w := w2) (R := [.int .i64 op, .int .u64 x]) Tryd.underlying37 rfl (by simp [Value.oneCell']))
      have OW := Lib.hid O3.out.own
      have hsl := Tryd.run_slice_ins w2 op x
      have h3 : Below w.heap.size w (w2.alloc (.cells #[.int .i64 op, .int .u64 x] 47)) := O3.out.below
      clear ba O2
      go_wp2_with fail
      clear hsl
      generalize w2.alloc (.cells #[.int .i64 op, .int .u64 x] 47) = w3 at *
      refine hK.out _ _ h3 (fun h0 => ?_)
      clear hK K h3
      try simp only [Act.put, List.setIfInBounds_toArray, List.set_cons_zero, List.set_cons_succ]
      refine wpAnyH_ready (rs := [13]) (by kernel_rfl) (by simp) ?_
      refine AllReadyH.cons (by rw [List.getElem?_toArray]; rfl) (fun K hK => ?_) AllReadyH.nil
      rw [if_pos (by rfl)]
      refine wp_append_row _ _ rfl Tryd.underlying37 hi.out hz0.out hz1.out hz2.out rfl OW.out SR.out (by have := HLT.out; unfold maxLen; omega) (by have := HLT.out; omega) ?_
      intro q8 k8 w8 own8 grow8 fr8
      have O8 := Lib.hid (O3.out.grow PIs_ok (n := 2) rfl (show PIs w3 _ ⟨op, x⟩ _ from rfl) own8 grow8 fr8)
      have h8 := O8.out.below
      clear own8 grow8 fr8 O3 SR OW
      refine hK.out _ _ h8 (fun h0 => ?_)
      clear hK K h8
      try simp only [Act.put, List.setIfInBounds_toArray, List.set_cons_zero, List.set_cons_succ]
      refine wpAnyH_take (i := 14) (v := ?_) (by rw [List.getElem?_toArray]; rfl) (by kernel_rfl) (by kernel_rfl) (by kernel_rfl) (by exact fun _ _ _ h => h) (Or.inl ⟨by rfl, ?_⟩) h0 ?_
      rotate_left
      · intro W hW
        go_simp
        all_goals with_reducible rfl
      try simp only [Act.put, List.setIfInBounds_toArray, List.set_cons_zero, List.set_cons_succ]
      refine wpAnyH_done (by kernel_rfl) ?_ _
      clear h0
      obtain ⟨hq1, hq2⟩ := HLT.out
      go_wp2_with fail
      go_roundw
      case rel =>
        refine ⟨q8, k8, C ++ [⟨op, x⟩], done ++ [.int .i64 op, .int .u64 x], ?_, ?_, ?_, ?_, ?_⟩
        · rw [List.length_append, List.length_singleton]; go_num
        · rw [List.length_append, List.length_singleton]
        · have := HLT.out
          rw [List.length_append, List.length_singleton]
          omega
        · show _ = _
          rw [List.length_append, List.length_singleton]
          exact HTK.out
        · rw [List.length_append, List.length_singleton]
          exact O8.out
      case measure => have := HLT.out; simp [intOf]; omega
    · have hCL : C.length = L.length := by omega
      have hC : C = L := by
        have := hCe.out
        rw [hCL, List.take_length] at this
        exact this
      have RX : Hid (RwF 2 ins0 PIs wr (fun g => w.heap.size ≤ g) q1 C) := by
        rcases OwF.rows PIs_ok hO.out with h | ⟨b, off, e, hb, hx⟩
        · exact .inl h
        · refine .inr ⟨b, off, e, hO.out.fresh b hb, fun i hi => ?_⟩
          obtain ⟨r, h1, h2, h3⟩ := hx i hi
          exact ⟨r, h1, h2, h3⟩
      have BB := Lib.hid hO.out.below
      subst hC
      clear hO hCe hCL hlt hil
      go_wp2_with fail
      go_ret
      exact ⟨q1, c1, rfl, RX.out, BB.out⟩

set_option maxHeartbeats 4000000 in
theorem Context8_any {w : World} {c : Cx} {qi : Option Addr} {ki : Nat} (hi : RdU w (.slice qi c.inp.length ki) c.inp) (hl : c.inp.length ≤ 1000) :
    Calls Tryd.prog 8 #[.agg #[.int .u64 c.who, .int .u64 c.val, .slice qi c.inp.length ki]] w fun e w' => ∃ q k, e = .returned (cxV c q k) ∧ RdU w' (.slice q c.inp.length k) c.inp ∧ Below w.heap.size w w' := by
  obtain ⟨i0, hi0, hz0, hz1, hz2⟩ := info_parts Tryd.infoU64
  replace hi0 := Lib.hid hi0
  replace hz0 := Lib.hid hz0
  replace hz1 := Lib.hid hz1
  replace hz2 := Lib.hid hz2
  have HIL := Lib.hid hl
  have b1 : Below w.heap.size w (w.alloc (.cells #[.int .u64 c.who, .int .u64 c.val, .slice qi c.inp.length ki] 26)) := (Below.refl _ _).alloc (Nat.le_refl _) _
  have b2 : Below w.heap.size w ((w.alloc (.cells #[.int .u64 c.who, .int .u64 c.val, .slice qi c.inp.length ki] 26)).alloc (.cells #[.int .u64 0, .int .u64 0, .slice none 0 0] 39)) := b1.alloc b1.size _
  have b3 : Below w.heap.size w ((w.alloc (.cells #[.int .u64 c.who, .int .u64 c.val, .slice qi c.inp.length ki] 26)).alloc (.cells #[.int .u64 0, .int .u64 0, .slice none 0 0] 39)).drew := b2.drew
  have hz : (w.alloc (.cells #[.int .u64 c.who, .int .u64 c.val, .slice qi c.inp.length ki] 26)).heap.size = w.heap.size + 1 := by simp
  have KX0 : ((w.alloc (.cells #[.int .u64 c.who, .int .u64 c.val, .slice qi c.inp.length ki] 26)).alloc (.cells #[.int .u64 0, .int .u64 0, .slice none 0 0] 39)).drew.heap[w.heap.size]? = some (.cells #[.int .u64 c.who, .int .u64 c.val, .slice qi c.inp.length ki] 26 (0, 0)) := by
    show ((w.alloc (.cells #[.int .u64 c.who, .int .u64 c.val, .slice qi c.inp.length ki] 26)).alloc (.cells #[.int .u64 0, .int .u64 0, .slice none 0 0] 39)).heap[w.heap.size]? = _
    rw [Below.heap_alloc _ _ _ (by rw [hz]; omega)]
    exact heap_alloc_new w _
  have KR : Hid (((w.alloc (.cells #[.int .u64 c.who, .int .u64 c.val, .slice qi c.inp.length ki] 26)).alloc (.cells #[.int .u64 0, .int .u64 0, .slice none 0 0] 39)).drew.heap[w.heap.size + 1]? = some (.cells #[.int .u64 0, .int .u64 0, .slice none 0 0] 39 (0, 0))) := by
    show ((w.alloc (.cells #[.int .u64 c.who, .int .u64 c.val, .slice qi c.inp.length ki] 26)).alloc (.cells #[.int .u64 0, .int .u64 0, .slice none 0 0] 39)).heap[w.heap.size + 1]? = _
    have := heap_alloc_new (w.alloc (.cells #[.int .u64 c.who, .int .u64 c.val, .slice qi c.inp.length ki] 26)) (.cells #[.int .u64 0, .int .u64 0, .slice none 0 0] 39)
    rw [hz] at this
    exact this
  have KX := Lib.hid KX0
  have RI := Lib.hid (hi.on b3)
  have B2 := Lib.hid b3
  clear b1 b2 b3 hz hi hl
  go_enter Tryd.func8, Tryd.ntmps8
  go_wp2_with fail
  refine wp_region_held_drew (S := fun W => W.heap[w.heap.size]? = some (.cells #[.int .u64 c.who, .int .u64 c.val, .slice qi c.inp.length ki] 26 (0, 0))) (by kernel_rfl) (KX0) (fun h0 => ?_)
  generalize ((w.alloc (.cells #[.int .u64 c.who, .int .u64 c.val, .slice qi c.inp.length ki] 26)).alloc (.cells #[.int .u64 0, .int .u64 0, .slice none 0 0] 39)).drew = w2 at *
  refine wpAnyH_take (i := 0) (v := ?_) (by rw [List.getElem?_toArray]; rfl) (by kernel_rfl) (by kernel_rfl) (by kernel_rfl) (by exact fun _ _ _ h => h) (Or.inl ⟨by rfl, ?_⟩) h0 ?_
  rotate_left
  · intro W hW
    go_simp
    all_goals with_reducible rfl
  try simp only [Act.put, List.setIfInBounds_toArray, List.set_cons_zero, List.set_cons_succ]
  refine wpAnyH_take (i := 1) (v := ?_) (by rw [List.getElem?_toArray]; rfl) (by kernel_rfl) (by kernel_rfl) (by kernel_rfl) (by exact fun _ _ _ h => h) (Or.inl ⟨by rfl, ?_⟩) h0 ?_
  rotate_left
  · intro W hW
    have c0 := (Joins.cell_of_block hW 0).trans (rfl : _ = some _)
    have c1 := (Joins.cell_of_block hW 1).trans (rfl : _ = some _)
    have c2 := (Joins.cell_of_block hW 2).trans (rfl : _ = some _)
    go_simp
    all_goals with_reducible rfl
  try simp only [Act.put, List.setIfInBounds_toArray, List.set_cons_zero, List.set_cons_succ]
  refine wpAnyH_take (i := 2) (v := ?_) (by rw [List.getElem?_toArray]; rfl) (by kernel_rfl) (by kernel_rfl) (by kernel_rfl) (by exact fun _ _ _ h => h) (Or.inl ⟨by rfl, ?_⟩) h0 ?_
  rotate_left
  · intro W hW
    go_simp
    all_goals with_reducible rfl
  try simp only [Act.put, List.setIfInBounds_toArray, List.set_cons_zero, List.set_cons_succ]
  refine wpAnyH_take (i := 3) (v := ?_) (by rw [List.getElem?_toArray]; rfl) (by kernel_rfl) (by kernel_rfl) (by kernel_rfl) (by exact fun _ _ _ h => h) (Or.inl ⟨by rfl, ?_⟩) h0 ?_
  rotate_left
  · intro W hW
    have c0 := (Joins.cell_of_block hW 0).trans (rfl : _ = some _)
    have c1 := (Joins.cell_of_block hW 1).trans (rfl : _ = some _)
    have c2 := (Joins.cell_of_block hW 2).trans (rfl : _ = some _)
    go_simp
    all_goals with_reducible rfl
  try simp only [Act.put, List.setIfInBounds_toArray, List.set_cons_zero, List.set_cons_succ]
  refine wpAnyH_take (i := 5) (v := ?_) (by rw [List.getElem?_toArray]; rfl) (by kernel_rfl) (by kernel_rfl) (by kernel_rfl) (by exact fun _ _ _ h => h) (Or.inl ⟨by rfl, ?_⟩) h0 ?_
  rotate_left
  · intro W hW
    go_simp
    all_goals with_reducible rfl
  try simp only [Act.put, List.setIfInBounds_toArray, List.set_cons_zero, List.set_cons_succ]
  refine wpAnyH_take (i := 6) (v := ?_) (by rw [List.getElem?_toArray]; rfl) (by kernel_rfl) (by kernel_rfl) (by kernel_rfl) (by exact fun _ _ _ h => h) (Or.inl ⟨by rfl, ?_⟩) h0 ?_
  rotate_left
  · intro W hW
    have c0 := (Joins.cell_of_block hW 0).trans (rfl : _ = some _)
    have c1 := (Joins.cell_of_block hW 1).trans (rfl : _ = some _)
    have c2 := (Joins.cell_of_block hW 2).trans (rfl : _ = some _)
    go_simp
    all_goals with_reducible rfl
  try simp only [Act.put, List.setIfInBounds_toArray, List.set_cons_zero, List.set_cons_succ]
  refine wpAnyH_ready (rs := [4]) (by kernel_rfl) (by simp) ?_
  refine AllReadyH.cons (by rw [List.getElem?_toArray]; rfl) (fun K hK => ?_) AllReadyH.nil
  rw [if_pos (by rfl)]
  have E7 := Lib.hid (own_empty w2 23 1)
  have b7 : Below w2.heap.size w2 (w2.alloc (.cells #[] 23)) := (Below.refl _ _).alloc (Nat.le_refl _) _
  have B7 := Lib.hid b7
  have R7 := Lib.hid ((RI.out.on b7).src (P := Tryd.prog) Tryd.underlying24)
  have h7 : (w2.alloc (.cells #[] 23)).heap[w.heap.size]? = some (.cells #[.int .u64 c.who, .int .u64 c.val, .slice qi c.inp.length ki] 26 (0, 0)) := by rw [b7.block _ (Array.getElem?_eq_some_iff.1 h0).1]; exact h0
  clear b7
  go_wp2_with fail
  obtain ⟨z7, hz7⟩ : ∃ z, w2.heap.size = z := ⟨_, rfl⟩
  have HZ7 := Lib.hid hz7
  rw [hz7] at E7 ⊢
  generalize w2.alloc (.cells #[] 23) = w7 at *
  clear hz7
  refine hK.out _ _ h7 (fun h0 => ?_)
  clear hK K h7
  try simp only [Act.put, List.setIfInBounds_toArray, List.set_cons_zero, List.set_cons_succ]
  refine wpAnyH_ready (rs := [7]) (by kernel_rfl) (by simp) ?_
  refine AllReadyH.cons (by rw [List.getElem?_toArray]; rfl) (fun K hK => ?_) AllReadyH.nil
  rw [if_pos (by rfl)]
  refine wp_append_row _ _ rfl Tryd.underlying24 hi0.out hz0.out hz1.out hz2.out rfl E7.out R7.out (by have := HIL.out; unfold maxLen; omega) (by have := HIL.out; omega) ?_
  intro q8 k8 w8 own8 grow8 fr8
  try simp only [Nat.zero_add, List.nil_append] at own8
  try simp only [Nat.zero_add]
  have b8 : Below w2.heap.size w2 w8 := B7.out.grown grow8 B7.out.size (fun j hj => by
    have h1 := HZ7.out
    have hj2 : (Value.slice (some ⟨z7, 0, none⟩) 0 0).ownBlock = some j := hj
    simp [Value.ownBlock] at hj2
    omega)
  have B8 := Lib.hid (B2.out.trans (b8.mono B2.out.size))
  have h8 : w8.heap[w.heap.size]? = some (.cells #[.int .u64 c.who, .int .u64 c.val, .slice qi c.inp.length ki] 26 (0, 0)) := by rw [b8.block _ (Array.getElem?_eq_some_iff.1 KX.out).1]; exact KX.out
  have KR8 : Hid (w8.heap[w.heap.size + 1]? = some (.cells #[.int .u64 0, .int .u64 0, .slice none 0 0] 39 (0, 0))) := by
    show _ = _
    rw [b8.block _ (Array.getElem?_eq_some_iff.1 KR.out).1]; exact KR.out
  have O8 := Lib.hid own8
  clear own8 grow8 fr8 E7 R7 B7 KR b8
  refine hK.out _ _ h8 (fun h0 => ?_)
  clear hK K h8
  try simp only [Act.put, List.setIfInBounds_toArray, List.set_cons_zero, List.set_cons_succ]
  refine wpAnyH_take (i := 8) (v := ?_) (by rw [List.getElem?_toArray]; rfl) (by kernel_rfl) (by kernel_rfl) (by kernel_rfl) (by exact fun _ _ _ h => h) (Or.inl ⟨by rfl, ?_⟩) h0 ?_
  rotate_left
  · intro W hW
    go_simp
    all_goals with_reducible rfl
  try simp only [Act.put, List.setIfInBounds_toArray, List.set_cons_zero, List.set_cons_succ]
  refine wpAnyH_ready (rs := [9]) (by kernel_rfl) (by simp) ?_
  refine AllReadyH.cons (by rw [List.getElem?_toArray]; rfl) (fun K hK => ?_) AllReadyH.nil
  rw [if_pos (by rfl)]
  have x0 := (Joins.cell_of_block KR8.out 0).trans (rfl : _ = some _)
  have x1 := (Joins.cell_of_block KR8.out 1).trans (rfl : _ = some _)
  have x2 := (Joins.cell_of_block KR8.out 2).trans (rfl : _ = some _)
  have y0 := Joins.unfrozen_of_block KR8.out 0
  have y1 := Joins.unfrozen_of_block KR8.out 1
  have y2 := Joins.unfrozen_of_block KR8.out 2
  have K9 : (((w8.setCell ⟨w.heap.size + 1, 0, none⟩ (.int .u64 c.who)).setCell ⟨w.heap.size + 1, 1, none⟩ (.int .u64 c.val)).setCell ⟨w.heap.size + 1, 2, none⟩ (.slice q8 c.inp.length k8)).heap[w.heap.size + 1]? = some (.cells #[.int .u64 c.who, .int .u64 c.val, .slice q8 c.inp.length k8] 39 (0, 0)) :=
    Joins.block_setCell (Joins.block_setCell (Joins.block_setCell KR8.out _) _) _
  have kn : ∀ g, g ≠ w.heap.size + 1 → (((w8.setCell ⟨w.heap.size + 1, 0, none⟩ (.int .u64 c.who)).setCell ⟨w.heap.size + 1, 1, none⟩ (.int .u64 c.val)).setCell ⟨w.heap.size + 1, 2, none⟩ (.slice q8 c.inp.length k8)).heap[g]? = w8.heap[g]? := fun g hg => by
    rw [Below.heap_setCell _ _ _ _ (by simpa using hg), Below.heap_setCell _ _ _ _ (by simpa using hg), Below.heap_setCell _ _ _ _ (by simpa using hg)]
  have h9 : (((w8.setCell ⟨w.heap.size + 1, 0, none⟩ (.int .u64 c.who)).setCell ⟨w.heap.size + 1, 1, none⟩ (.int .u64 c.val)).setCell ⟨w.heap.size + 1, 2, none⟩ (.slice q8 c.inp.length k8)).heap[w.heap.size]? = some (.cells #[.int .u64 c.who, .int .u64 c.val, .slice qi c.inp.length ki] 26 (0, 0)) := (kn _ (by omega)).trans h0
  have R9 := Lib.hid (rdU_of_own (own_keep O8.out (fun g hg => kn g (fun e => own_ne O8.out KR8.out (by decide) (by rw [← e]; exact hg)))))
  have hge : w.heap.size ≤ w.heap.size + 1 := by omega
  have B9 := Lib.hid (((B8.out.setCell (p := ⟨w.heap.size + 1, 0, none⟩) hge (.int .u64 c.who)).setCell (p := ⟨w.heap.size + 1, 1, none⟩) hge (.int .u64 c.val)).setCell (p := ⟨w.heap.size + 1, 2, none⟩) hge (.slice q8 c.inp.length k8))
  have K9 := Lib.hid K9
  clear kn O8 hge
  go_wp2_with fail
  clear x0 x1 x2 y0 y1 y2 KR8 B8
  generalize ((w8.setCell ⟨w.heap.size + 1, 0, none⟩ (.int .u64 c.who)).setCell ⟨w.heap.size + 1, 1, none⟩ (.int .u64 c.val)).setCell ⟨w.heap.size + 1, 2, none⟩ (.slice q8 c.inp.length k8) = w9 at *
  refine hK.out _ _ h9 (fun h0 => ?_)
  clear hK K h9
  try simp only [Act.put, List.setIfInBounds_toArray, List.set_cons_zero, List.set_cons_succ]
  refine wpAnyH_done (by kernel_rfl) ?_ _
  clear h0
  go_wp2_with fail
  have f0 := (Joins.cell_of_block K9.out 0).trans (rfl : _ = some _)
  have f1 := (Joins.cell_of_block K9.out 1).trans (rfl : _ = some _)
  have f2 := (Joins.cell_of_block K9.out 2).trans (rfl : _ = some _)
  refine bodyPost_ret (v := cxV c q8 k8) (by simp [results, Tryd.results8, go_sem, f0, f1, f2, cxV]) rfl ⟨q8, k8, rfl, R9.out, B9.out⟩

/-- The law's own code of four. -/
def kL8 : List Ins := [⟨1, 2⟩, ⟨1, 3⟩, ⟨6, 0⟩, ⟨0, 0⟩]
def cx0 : Cx := ⟨0, 0, []⟩
theorem k_run : runM kL8 cx0 (startM 9 ws0) 99 = (⟨3, 5, 1, 0, [18446744073709551615], ws0⟩, 4) := by kernel_rfl
def kLit : Array (Nat × Value) := #[(0, .agg #[.int .i64 1, .int .u64 2]), (1, .agg #[.int .i64 1, .int .u64 3]), (2, .agg #[.int .i64 6, .int .u64 0]), (3, .agg #[.int .i64 0, .int .u64 0])]
def kCells : List Value := [.int .i64 1, .int .u64 2, .int .i64 1, .int .u64 3, .int .i64 6, .int .u64 0, .int .i64 0, .int .u64 0]
theorem Tryd.run_klit (w : World) : (Instr.buildSlice 37 4 #[(0, .agg #[.int .i64 1, .int .u64 2]), (1, .agg #[.int .i64 1, .int .u64 3]), (2, .agg #[.int .i64 6, .int .u64 0]), (3, .agg #[.int .i64 0, .int .u64 0])]).run Tryd.prog w = .ok (.slice (some ⟨w.heap.size, 0, none⟩) 4 4) (w.alloc (.cells #[.int .i64 1, .int .u64 2, .int .i64 1, .int .u64 3, .int .i64 6, .int .u64 0, .int .i64 0, .int .u64 0] 47)) := by kernel_rfl
end Go.Proofs.YtnllcmcahfkmaaaDoor
namespace Go.Proofs.YtnllcmcahfkmaaaDoor
open Go.RowKit
set_option maxRecDepth 100000

theorem Tryd.run_stAll (w : World) (s : Ms) (q : Option Addr) (c : Nat) (h : s.wds.length = 16) : (rowBuild 34 #[(0, .int .i64 s.pc), (1, .int .u64 s.gas), (2, .int .i64 s.st), (3, .int .i64 s.e), (4, .slice q s.stk.length c), (5, .agg (wcs s.wds).toArray)]).run Tryd.prog w = .ok (.agg (stRow s q c).toArray) w := by
  obtain ⟨pc, gas, st, e, stk, wds⟩ := s
  obtain ⟨a_, b_, c_, d_, e_, f_, g_, h_, i_, j_, k_, l_, m_, n_, o_, p_, rfl⟩ := len16 h
  unfold rowBuild
  kernel_rfl
theorem st_words {w : World} {b : Nat} {s : Ms} {q : Option Addr} {c : Nat} {T : TypeId} {fr : Nat × Nat} (h : w.heap[b]? = some (.cells (stRow s q c).toArray T fr)) (hw : s.wds.length = 16) : rowOf w b 5 16 = wcs s.wds := by
  rw [rowOf_block h]
  have e : (wcs s.wds).length = 16 := by rw [wcs_len, hw]
  simp [stRow, List.take_of_length_le (Nat.le_of_eq e)]
/-- A state as it is handed on: its stack can be read, and cut. -/
def StP (s : Ms) (w : World) (e : Ending) (w' : World) : Prop := ∃ q c, e = .returned (.agg (stRow s q c).toArray) ∧ (RdU w' (.slice q s.stk.length c) s.stk ∧ s.stk.length ≤ c ∧ c ≤ maxLen) ∧ Below w.heap.size w w'
set_option maxHeartbeats 8000000 in
theorem State8_any {w : World} {s : Ms} {qs : Option Addr} {cs : Nat} (hs : RdU w (.slice qs s.stk.length cs) s.stk) (hl : s.stk.length ≤ 1000) (w16 : s.wds.length = 16) :
    Calls Tryd.prog 9 #[.agg (stRow s qs cs).toArray] w (StP s w) := by
  obtain ⟨i0, hi0, hz0, hz1, hz2⟩ := info_parts Tryd.infoU64
  replace hi0 := Lib.hid hi0
  replace hz0 := Lib.hid hz0
  replace hz1 := Lib.hid hz1
  replace hz2 := Lib.hid hz2
  obtain ⟨n, hn⟩ : ∃ n, s.stk.length = n := ⟨_, rfl⟩
  have HN := Lib.hid hn
  have W16 := Lib.hid w16
  have HIL : Hid (n ≤ 1000) := by show _ ≤ _; rw [← hn]; exact hl
  have b1 : Below w.heap.size w (w.alloc (.cells (stRow s qs cs).toArray 29)) := (Below.refl _ _).alloc (Nat.le_refl _) _
  have b2 : Below w.heap.size w ((w.alloc (.cells (stRow s qs cs).toArray 29)).alloc (.cells (stRow ms0 none 0).toArray 34)) := b1.alloc b1.size _
  have b3 : Below w.heap.size w ((w.alloc (.cells (stRow s qs cs).toArray 29)).alloc (.cells (stRow ms0 none 0).toArray 34)).drew := b2.drew
  have hz : (w.alloc (.cells (stRow s qs cs).toArray 29)).heap.size = w.heap.size + 1 := by simp
  have KX0 : ((w.alloc (.cells (stRow s qs cs).toArray 29)).alloc (.cells (stRow ms0 none 0).toArray 34)).drew.heap[w.heap.size]? = some (.cells (stRow s qs cs).toArray 29 (0, 0)) := by
    show ((w.alloc (.cells (stRow s qs cs).toArray 29)).alloc (.cells (stRow ms0 none 0).toArray 34)).heap[w.heap.size]? = some (.cells (stRow s qs cs).toArray 29 (0, 0))
    rw [Below.heap_alloc _ _ _ (by rw [hz]; omega)]
    exact heap_alloc_new w _
  have KR : Hid (StAt ((w.alloc (.cells (stRow s qs cs).toArray 29)).alloc (.cells (stRow ms0 none 0).toArray 34)).drew (w.heap.size + 1) ms0 none 0) := by
    have := heap_alloc_new (w.alloc (.cells (stRow s qs cs).toArray 29)) (.cells (stRow ms0 none 0).toArray 34)
    rw [hz] at this
    exact this
  have KX := Lib.hid KX0
  have RI := Lib.hid (hs.on b3)
  have B2 := Lib.hid b3
  clear b1 b2 b3 hz hs hl hn w16
  go_enter Tryd.func9, Tryd.ntmps9
  go_wp2_with fail
  refine wp_region_held_drew (S := fun W => W.heap[w.heap.size]? = some (.cells (stRow s qs cs).toArray 29 (0, 0))) (by kernel_rfl) (KX0) (fun h0 => ?_)
  generalize ((w.alloc (.cells (stRow s qs cs).toArray 29)).alloc (.cells (stRow ms0 none 0).toArray 34)).drew = w2 at *
  refine wpAnyH_take (i := 0) (v := ?_) (by rw [List.getElem?_toArray]; rfl) (by kernel_rfl) (by kernel_rfl) (by kernel_rfl) (by exact fun _ _ _ h => h) (Or.inl ⟨by rfl, ?_⟩) h0 ?_
  rotate_left
  · intro W hW
    go_simp
    all_goals with_reducible rfl
  try simp only [Act.put, List.setIfInBounds_toArray, List.set_cons_zero, List.set_cons_succ]
  refine wpAnyH_take (i := 1) (v := ?_) (by rw [List.getElem?_toArray]; rfl) (by kernel_rfl) (by kernel_rfl) (by kernel_rfl) (by exact fun _ _ _ h => h) (Or.inl ⟨by rfl, ?_⟩) h0 ?_
  rotate_left
  · intro W hW
    have cc : W.cell? ⟨w.heap.size, 0, none⟩ = some (.int .i64 s.pc) := (Joins.cell_of_block hW 0).trans (by rfl)
    go_simp
    all_goals with_reducible rfl
  try simp only [Act.put, List.setIfInBounds_toArray, List.set_cons_zero, List.set_cons_succ]
  refine wpAnyH_take (i := 2) (v := ?_) (by rw [List.getElem?_toArray]; rfl) (by kernel_rfl) (by kernel_rfl) (by kernel_rfl) (by exact fun _ _ _ h => h) (Or.inl ⟨by rfl, ?_⟩) h0 ?_
  rotate_left
  · intro W hW
    go_simp
    all_goals with_reducible rfl
  try simp only [Act.put, List.setIfInBounds_toArray, List.set_cons_zero, List.set_cons_succ]
  refine wpAnyH_take (i := 3) (v := ?_) (by rw [List.getElem?_toArray]; rfl) (by kernel_rfl) (by kernel_rfl) (by kernel_rfl) (by exact fun _ _ _ h => h) (Or.inl ⟨by rfl, ?_⟩) h0 ?_
  rotate_left
  · intro W hW
    have cc : W.cell? ⟨w.heap.size, 1, none⟩ = some (.int .u64 s.gas) := (Joins.cell_of_block hW 1).trans (by rfl)
    go_simp
    all_goals with_reducible rfl
  try simp only [Act.put, List.setIfInBounds_toArray, List.set_cons_zero, List.set_cons_succ]
  refine wpAnyH_take (i := 4) (v := ?_) (by rw [List.getElem?_toArray]; rfl) (by kernel_rfl) (by kernel_rfl) (by kernel_rfl) (by exact fun _ _ _ h => h) (Or.inl ⟨by rfl, ?_⟩) h0 ?_
  rotate_left
  · intro W hW
    go_simp
    all_goals with_reducible rfl
  try simp only [Act.put, List.setIfInBounds_toArray, List.set_cons_zero, List.set_cons_succ]
  refine wpAnyH_take (i := 5) (v := ?_) (by rw [List.getElem?_toArray]; rfl) (by kernel_rfl) (by kernel_rfl) (by kernel_rfl) (by exact fun _ _ _ h => h) (Or.inl ⟨by rfl, ?_⟩) h0 ?_
  rotate_left
  · intro W hW
    have cc : W.cell? ⟨w.heap.size, 2, none⟩ = some (.int .i64 s.st) := (Joins.cell_of_block hW 2).trans (by rfl)
    go_simp
    all_goals with_reducible rfl
  try simp only [Act.put, List.setIfInBounds_toArray, List.set_cons_zero, List.set_cons_succ]
  refine wpAnyH_take (i := 6) (v := ?_) (by rw [List.getElem?_toArray]; rfl) (by kernel_rfl) (by kernel_rfl) (by kernel_rfl) (by exact fun _ _ _ h => h) (Or.inl ⟨by rfl, ?_⟩) h0 ?_
  rotate_left
  · intro W hW
    go_simp
    all_goals with_reducible rfl
  try simp only [Act.put, List.setIfInBounds_toArray, List.set_cons_zero, List.set_cons_succ]
  refine wpAnyH_take (i := 7) (v := ?_) (by rw [List.getElem?_toArray]; rfl) (by kernel_rfl) (by kernel_rfl) (by kernel_rfl) (by exact fun _ _ _ h => h) (Or.inl ⟨by rfl, ?_⟩) h0 ?_
  rotate_left
  · intro W hW
    have cc : W.cell? ⟨w.heap.size, 3, none⟩ = some (.int .i64 s.e) := (Joins.cell_of_block hW 3).trans (by rfl)
    go_simp
    all_goals with_reducible rfl
  try simp only [Act.put, List.setIfInBounds_toArray, List.set_cons_zero, List.set_cons_succ]
  refine wpAnyH_take (i := 9) (v := ?_) (by rw [List.getElem?_toArray]; rfl) (by kernel_rfl) (by kernel_rfl) (by kernel_rfl) (by exact fun _ _ _ h => h) (Or.inl ⟨by rfl, ?_⟩) h0 ?_
  rotate_left
  · intro W hW
    go_simp
    all_goals with_reducible rfl
  try simp only [Act.put, List.setIfInBounds_toArray, List.set_cons_zero, List.set_cons_succ]
  refine wpAnyH_take (i := 10) (v := ?_) (by rw [List.getElem?_toArray]; rfl) (by kernel_rfl) (by kernel_rfl) (by kernel_rfl) (by exact fun _ _ _ h => h) (Or.inl ⟨by rfl, ?_⟩) h0 ?_
  rotate_left
  · intro W hW
    have cc : W.cell? ⟨w.heap.size, 4, none⟩ = some (.slice qs n cs) := (Joins.cell_of_block hW 4).trans (by rw [← HN.out]; rfl)
    go_simp
    all_goals with_reducible rfl
  try simp only [Act.put, List.setIfInBounds_toArray, List.set_cons_zero, List.set_cons_succ]
  refine wpAnyH_take (i := 12) (v := ?_) (by rw [List.getElem?_toArray]; rfl) (by kernel_rfl) (by kernel_rfl) (by kernel_rfl) (by exact fun _ _ _ h => h) (Or.inl ⟨by rfl, ?_⟩) h0 ?_
  rotate_left
  · intro W hW
    go_simp
    all_goals with_reducible rfl
  try simp only [Act.put, List.setIfInBounds_toArray, List.set_cons_zero, List.set_cons_succ]
  refine wpAnyH_take (i := 13) (v := ?_) (by rw [List.getElem?_toArray]; rfl) (by kernel_rfl) (by kernel_rfl) (by kernel_rfl) (by exact fun _ _ _ h => h) (Or.inl ⟨by rfl, ?_⟩) h0 ?_
  rotate_left
  · intro W hW
    have cc := st_words hW W16.out
    have cl := W16.out
    have cw := wcs_len s.wds
    go_simp
    all_goals with_reducible rfl
  try simp only [Act.put, List.setIfInBounds_toArray, List.set_cons_zero, List.set_cons_succ]
  refine wpAnyH_ready (rs := [8]) (by kernel_rfl) (by simp) ?_
  refine AllReadyH.cons (by rw [List.getElem?_toArray]; rfl) (fun K hK => ?_) AllReadyH.nil
  rw [if_pos (by rfl)]
  have E7 := Lib.hid (own_empty w2 23 1)
  have b7 : Below w2.heap.size w2 (w2.alloc (.cells #[] 23)) := (Below.refl _ _).alloc (Nat.le_refl _) _
  have B7 := Lib.hid b7
  have R7 := (RI.out.on b7).src (P := Tryd.prog) Tryd.underlying24
  rw [HN.out] at R7
  replace R7 := Lib.hid R7
  have h7 : (w2.alloc (.cells #[] 23)).heap[w.heap.size]? = some (.cells (stRow s qs cs).toArray 29 (0, 0)) := by rw [b7.block _ (Array.getElem?_eq_some_iff.1 h0).1]; exact h0
  clear b7
  go_wp2_with fail
  obtain ⟨z7, hz7⟩ : ∃ z, w2.heap.size = z := ⟨_, rfl⟩
  have HZ7 := Lib.hid hz7
  rw [hz7] at E7 ⊢
  generalize w2.alloc (.cells #[] 23) = w7 at *
  clear hz7
  refine hK.out _ _ (h7) (fun h0 => ?_)
  clear hK K
  try simp only [Act.put, List.setIfInBounds_toArray, List.set_cons_zero, List.set_cons_succ]
  refine wpAnyH_ready (rs := [11]) (by kernel_rfl) (by simp) ?_
  refine AllReadyH.cons (by rw [List.getElem?_toArray]; rfl) (fun K hK => ?_) AllReadyH.nil
  rw [if_pos (by rfl)]
  refine wp_append_row _ _ rfl Tryd.underlying24 hi0.out hz0.out hz1.out hz2.out rfl E7.out R7.out (by have := HIL.out; unfold maxLen; omega) (by have := HIL.out; omega) ?_
  intro q8 k8 w8 own8 grow8 fr8
  try simp only [Nat.zero_add, List.nil_append] at own8
  try simp only [Nat.zero_add]
  have b8 : Below w2.heap.size w2 w8 := B7.out.grown grow8 B7.out.size (fun j hj => by
    have h1 := HZ7.out
    have hj2 : (Value.slice (some ⟨z7, 0, none⟩) 0 0).ownBlock = some j := hj
    simp [Value.ownBlock] at hj2
    omega)
  have B8 := Lib.hid (B2.out.trans (b8.mono B2.out.size))
  have h8 : w8.heap[w.heap.size]? = some (.cells (stRow s qs cs).toArray 29 (0, 0)) := by rw [b8.block _ (Array.getElem?_eq_some_iff.1 KX.out).1]; exact KX.out
  have KR8 : Hid (StAt w8 (w.heap.size + 1) ms0 none 0) := by
    show _ = _
    rw [b8.block _ (Array.getElem?_eq_some_iff.1 KR.out).1]; exact KR.out
  have O8 := Lib.hid own8
  have hbd := fun W' => Tryd.run_stAll W' s q8 k8 W16.out
  simp only [HN.out] at hbd
  clear own8 grow8 fr8 E7 R7 B7 KR b8
  refine hK.out _ _ (h8) (fun h0 => ?_)
  clear hK K
  try simp only [Act.put, List.setIfInBounds_toArray, List.set_cons_zero, List.set_cons_succ]
  refine wpAnyH_take (i := 14) (v := ?_) (by rw [List.getElem?_toArray]; rfl) (by kernel_rfl) (by kernel_rfl) (by kernel_rfl) (by exact fun _ _ _ h => h) (Or.inl ⟨by rfl, ?_⟩) h0 ?_
  rotate_left
  · intro W hW
    have cc := hbd W
    go_simp
    all_goals with_reducible rfl
  try simp only [Act.put, List.setIfInBounds_toArray, List.set_cons_zero, List.set_cons_succ]
  refine wpAnyH_ready (rs := [15]) (by kernel_rfl) (by simp) ?_
  refine AllReadyH.cons (by rw [List.getElem?_toArray]; rfl) (fun K hK => ?_) AllReadyH.nil
  rw [if_pos (by rfl)]
  have th := KR8.out.there ws0_len
  have K9 := KR8.out.put (s' := s) (q' := q8) (c' := k8) ws0_len W16.out
  have kn : ∀ g, g ≠ w.heap.size + 1 → (w8.setCells (w.heap.size + 1) 0 (stRow s q8 k8)).heap[g]? = w8.heap[g]? := fun g hg => setCells_other hg _ _ _
  have h9 : (w8.setCells (w.heap.size + 1) 0 (stRow s q8 k8)).heap[w.heap.size]? = some (.cells (stRow s qs cs).toArray 29 (0, 0)) := by rw [kn _ (by omega)]; exact h0
  have O9 := own_keep O8.out (fun g hg => kn g (fun e => own_ne O8.out KR8.out (by decide) (by rw [← e]; exact hg)))
  have B9 := below_setCells' (B := w.heap.size) (w.heap.size + 1) (by omega) (stRow s q8 k8) 0 B8.out
  have row9 := Lib.hid (K9.row W16.out)
  have X := Lib.hid (show StP s w (.returned (.agg (stRow s q8 k8).toArray)) (w8.setCells (w.heap.size + 1) 0 (stRow s q8 k8)) by
    rw [← HN.out] at O9
    exact ⟨q8, k8, rfl, ⟨rdU_of_own O9, own_room O9⟩, B9⟩)
  have w16 := W16.out
  clear kn O8 O9 B9 K9
  go_wp2_with fail
  clear th KR8 B8
  generalize w8.setCells (w.heap.size + 1) 0 (stRow s q8 k8) = w9 at *
  refine hK.out _ _ (h9) (fun h0 => ?_)
  clear hK K
  try simp only [Act.put, List.setIfInBounds_toArray, List.set_cons_zero, List.set_cons_succ]
  refine wpAnyH_done (by kernel_rfl) ?_ _
  clear h0
  go_wp2_with fail
  have cf := row9.out
  refine bodyPost_ret (v := .agg (stRow s q8 k8).toArray) (by simp [results, Tryd.results9, go_sem, cf, w16]) rfl X.out
end Go.Proofs.YtnllcmcahfkmaaaDoor
namespace Go.Proofs.YtnllcmcahfkmaaaDoor
open Go.RowKit
set_option maxRecDepth 100000

theorem pl_bytesM (V : List Int → List Int) : ∀ (n : Nat) (S : List (List Int)), Bytes (pl V n S)
  | 0, [] => zero32_bytes
  | 0, k :: _ => lfH_bytes k (V k)
  | _ + 1, _ => abH_bytes _ _
theorem rootM_bytes (W : List Int) : Bytes (rootM W) := by
  unfold rootM
  exact pl_bytesM _ _ _
/-- A state's hash, out of what it holds alone. -/
def hashM (s : Ms) : List Int := hbH s (rootM s.wds)
set_option maxHeartbeats 8000000 in
theorem Hash8_any {w : World} {s : Ms} {qs : Option Addr} {cs : Nat} (hT : Tbl w) (w16 : s.wds.length = 16) (u : U64s s.wds) (hs : RdU w (.slice qs s.stk.length cs) s.stk) (hcap : s.stk.length ≤ cs ∧ cs ≤ maxLen) (hl : s.stk.length ≤ 1000) :
    Calls Tryd.prog 10 #[.agg (stRow s qs cs).toArray] w fun e w' => e = .returned (.agg (hc (hashM s)).toArray) ∧ Below w.heap.size w w' := by
  have W16 := Lib.hid w16
  have U := Lib.hid u
  have HCAP := Lib.hid hcap
  have HL := Lib.hid hl
  have b1 : Below w.heap.size w (w.alloc (.cells (stRow s qs cs).toArray 34)) := (Below.refl _ _).alloc (Nat.le_refl _) _
  have b2 : Below w.heap.size w ((w.alloc (.cells (stRow s qs cs).toArray 34)).alloc (.cells (hc zero32).toArray 43)) := b1.alloc b1.size _
  have b3 : Below w.heap.size w ((w.alloc (.cells (stRow s qs cs).toArray 34)).alloc (.cells (hc zero32).toArray 43)).drew := b2.drew
  have hz : (w.alloc (.cells (stRow s qs cs).toArray 34)).heap.size = w.heap.size + 1 := by simp
  have KX0 : ((w.alloc (.cells (stRow s qs cs).toArray 34)).alloc (.cells (hc zero32).toArray 43)).drew.heap[w.heap.size]? = some (.cells (stRow s qs cs).toArray 34 (0, 0)) := by
    show ((w.alloc (.cells (stRow s qs cs).toArray 34)).alloc (.cells (hc zero32).toArray 43)).heap[w.heap.size]? = some (.cells (stRow s qs cs).toArray 34 (0, 0))
    rw [Below.heap_alloc _ _ _ (by rw [hz]; omega)]
    exact heap_alloc_new w _
  have HZ : Hid (HashAt ((w.alloc (.cells (stRow s qs cs).toArray 34)).alloc (.cells (hc zero32).toArray 43)).drew (w.heap.size + 1) zero32) := by
    have := HashAt.new (w.alloc (.cells (stRow s qs cs).toArray 34)) zero32
    rw [hz] at this
    exact this
  have KX := Lib.hid KX0
  have HSK := Lib.hid (hs.on b3)
  have B2 := Lib.hid b3
  have HT := Lib.hid (hT.on b3 hT.pos)
  have z32 := zero32_len
  clear b1 b2 b3 hz hs hl w16 u hcap hT
  go_enter Tryd.func10, Tryd.ntmps10
  go_wp2_with fail
  refine wp_region_held_drew (S := fun W => W.heap[w.heap.size]? = some (.cells (stRow s qs cs).toArray 34 (0, 0))) (by kernel_rfl) (KX0) (fun h0 => ?_)
  generalize ((w.alloc (.cells (stRow s qs cs).toArray 34)).alloc (.cells (hc zero32).toArray 43)).drew = w2 at *
  refine wpAnyH_take (i := 0) (v := ?_) (by rw [List.getElem?_toArray]; rfl) (by kernel_rfl) (by kernel_rfl) (by kernel_rfl) (by exact fun _ _ _ h => h) (Or.inl ⟨by rfl, ?_⟩) h0 ?_
  rotate_left
  · intro W hW
    have cc := StAt.row (show StAt W w.heap.size s qs cs from hW) W16.out
    have w16 := W16.out
    go_simp
    all_goals with_reducible rfl
  try simp only [Act.put, List.setIfInBounds_toArray, List.set_cons_zero, List.set_cons_succ]
  refine wpAnyH_take (i := 1) (v := ?_) (by rw [List.getElem?_toArray]; rfl) (by kernel_rfl) (by kernel_rfl) (by kernel_rfl) (by exact fun _ _ _ h => h) (Or.inl ⟨by rfl, ?_⟩) h0 ?_
  rotate_left
  · intro W hW
    go_simp
    all_goals with_reducible rfl
  try simp only [Act.put, List.setIfInBounds_toArray, List.set_cons_zero, List.set_cons_succ]
  refine wpAnyH_take (i := 2) (v := ?_) (by rw [List.getElem?_toArray]; rfl) (by kernel_rfl) (by kernel_rfl) (by kernel_rfl) (by exact fun _ _ _ h => h) (Or.inl ⟨by rfl, ?_⟩) h0 ?_
  rotate_left
  · intro W hW
    have cc := st_words hW W16.out
    have cl := W16.out
    have cw := wcs_len s.wds
    go_simp
    all_goals with_reducible rfl
  try simp only [Act.put, List.setIfInBounds_toArray, List.set_cons_zero, List.set_cons_succ]
  refine wpAnyH_ready (rs := [3]) (by kernel_rfl) (by simp) ?_
  refine AllReadyH.cons (by rw [List.getElem?_toArray]; rfl) (fun K hK => ?_) AllReadyH.nil
  rw [if_pos (by rfl)]
  go_wp2_with fail
  refine (wordMap_any U.out W16.out).mono ?_
  rintro e w3 ⟨p, m, E, c, top, bl, rfl, hm3, hv3⟩
  have M3 := Lib.hid hm3
  have RE := Lib.hid (rootE_words hm3.map.e hv3)
  have k3 : w3.heap[w.heap.size]? = some (.cells (stRow s qs cs).toArray 34 (0, 0)) := by rw [hm3.below.block _ (Array.getElem?_eq_some_iff.1 h0).1]; exact h0
  have HT3 := Lib.hid (HT.out.on hm3.below HT.out.pos)
  clear hm3 hv3
  go_wp2_with fail
  refine hK.out _ _ (k3) (fun h0 => ?_)
  clear hK K
  try simp only [Act.put, List.setIfInBounds_toArray, List.set_cons_zero, List.set_cons_succ]
  refine wpAnyH_ready (rs := [4]) (by kernel_rfl) (by simp) ?_
  refine AllReadyH.cons (by rw [List.getElem?_toArray]; rfl) (fun K hK => ?_) AllReadyH.nil
  rw [if_pos (by rfl)]
  have GB : 0 ∉ bl := fun h => by have := M3.out.bg _ h; have := HT.out.pos; omega
  have KR := Root_all HT3.out M3.out.map GB
  rw [RE.out] at KR
  go_wp2_with fail
  refine KR.mono ?_
  rintro e w4 ⟨rfl, hc4, -⟩
  have B4 := Lib.hid (M3.out.below.trans (hc4.toBelow M3.out.below.size (fun k hk => M3.out.bg k hk)))
  have k4 : w4.heap[w.heap.size]? = some (.cells (stRow s qs cs).toArray 34 (0, 0)) := by rw [B4.out.block _ (Array.getElem?_eq_some_iff.1 KX.out).1]; exact KX.out
  clear hc4 KR GB
  go_wp2_with fail
  refine hK.out _ _ (k4) (fun h0 => ?_)
  clear hK K
  try simp only [Act.put, List.setIfInBounds_toArray, List.set_cons_zero, List.set_cons_succ]
  refine wpAnyH_ready (rs := [5]) (by kernel_rfl) (by simp) ?_
  refine AllReadyH.cons (by rw [List.getElem?_toArray]; rfl) (fun K hK => ?_) AllReadyH.nil
  rw [if_pos (by rfl)]
  go_wp2_with fail
  refine (hashBy_any (HT.out.on B4.out HT.out.pos) W16.out (HSK.out.on B4.out) HCAP.out HL.out (rootM_len _) (rootM_bytes _)).mono ?_
  rintro e w5 ⟨rfl, hb5⟩
  have B5 := Lib.hid (B4.out.trans (hb5.mono B4.out.size))
  have k5 : w5.heap[w.heap.size]? = some (.cells (stRow s qs cs).toArray 34 (0, 0)) := by rw [B5.out.block _ (Array.getElem?_eq_some_iff.1 KX.out).1]; exact KX.out
  clear hb5
  go_wp2_with fail
  refine hK.out _ _ (k5) (fun h0 => ?_)
  clear hK K
  try simp only [Act.put, List.setIfInBounds_toArray, List.set_cons_zero, List.set_cons_succ]
  refine wpAnyH_ready (rs := [6]) (by kernel_rfl) (by simp) ?_
  refine AllReadyH.cons (by rw [List.getElem?_toArray]; rfl) (fun K hK => ?_) AllReadyH.nil
  rw [if_pos (by rfl)]
  have H5 := HZ.out.on B5.out
  have hth := H5.there zero32_len
  have hlen : (hbH s (rootM s.wds)).length = 32 := sha_len _
  have hput := Lib.hid ((H5.put zero32_len hlen).row hlen)
  have k6 : (w5.setCells (w.heap.size + 1) 0 (hc (hbH s (rootM s.wds)))).heap[w.heap.size]? = some (.cells (stRow s qs cs).toArray 34 (0, 0)) := by rw [setCells_other (by omega)]; exact h0
  have HX := Lib.hid (below_setCells' (B := w.heap.size) (w.heap.size + 1) (by omega) (hc (hbH s (rootM s.wds))) 0 (B2.out.trans (B5.out.mono B2.out.size)))
  have lF := hc_len (hbH s (rootM s.wds))
  clear H5
  go_wp2_with fail
  refine hK.out _ _ (k6) (fun h0 => ?_)
  clear hK K
  try simp only [Act.put, List.setIfInBounds_toArray, List.set_cons_zero, List.set_cons_succ]
  refine wpAnyH_done (by kernel_rfl) ?_ _
  clear h0
  go_wp2_with fail
  have cf := hput.out
  refine bodyPost_ret (v := .agg (hc (hbH s (rootM s.wds))).toArray) (by simp [results, Tryd.results10, go_sem, cf, hlen]) rfl ⟨rfl, HX.out⟩
end Go.Proofs.YtnllcmcahfkmaaaDoor
namespace Go.Proofs.YtnllcmcahfkmaaaDoor

theorem goM_stop {L : List Ins} {c : Cx} {s : Ms} (h : s.st ≠ 0) : ∀ k, goM L c k s = (s, 0)
  | 0 => rfl
  | k + 1 => by unfold goM; rw [if_neg h]
theorem goM_add (L : List Ins) (c : Cx) : ∀ (i j : Nat) (s : Ms), goM L c (i + j) s = ((goM L c j (goM L c i s).1).1, (goM L c i s).2 + (goM L c j (goM L c i s).1).2)
  | 0, j, s => by
    rw [Nat.zero_add]
    show _ = ((goM L c j s).1, 0 + (goM L c j s).2)
    rw [Nat.zero_add]
  | i + 1, j, s => by
    rw [show i + 1 + j = (i + j) + 1 by omega]
    by_cases hs : s.st = 0
    · have e : ∀ k, goM L c (k + 1) s = ((goM L c k (stepM L c s)).1, (goM L c k (stepM L c s)).2 + 1) := fun k => by
        conv => lhs; unfold goM
        rw [if_pos hs]
      rw [e, e, goM_add L c i j (stepM L c s)]
      simp only
      congr 1
      omega
    · rw [goM_stop hs, goM_stop hs, goM_stop hs]
      rfl
theorem runM_stop {L : List Ins} {c : Cx} {s : Ms} (h : s.st ≠ 0) (M : Int) : runM L c s M = (s, 0) := by unfold runM; rw [if_pos (.inl h)]
theorem runM_none {L : List Ins} {c : Cx} {s : Ms} {M : Int} (h : M < 1) : runM L c s M = (s, 0) := by unfold runM; rw [if_pos (.inr h)]
theorem runM_split (L : List Ins) (c : Cx) (s : Ms) {a b : Int} (ha : 0 ≤ a) (hb : 0 ≤ b) :
    (runM L c (runM L c s a).1 b).1 = (runM L c s (a + b)).1 ∧ (runM L c s a).2 + (runM L c (runM L c s a).1 b).2 = (runM L c s (a + b)).2 := by
  by_cases h0 : s.st = 0
  · by_cases ha1 : a < 1
    · have e : a + b = b := by omega
      rw [runM_none ha1, e]
      simp
    · by_cases hk : codeOk L = true
      · have e1 : ∀ M : Int, 1 ≤ M → runM L c s M = goM L c M.toNat s := fun M hM => by
          unfold runM
          rw [if_neg (by omega), if_pos hk]
        rw [e1 a (by omega), e1 (a + b) (by omega)]
        by_cases hb1 : b < 1
        · have e : a + b = a := by omega
          rw [runM_none hb1, e]
          simp
        · have e2 : runM L c (goM L c a.toNat s).1 b = goM L c b.toNat (goM L c a.toNat s).1 := by
            by_cases hx : (goM L c a.toNat s).1.st = 0
            · unfold runM
              rw [if_neg (by omega), if_pos hk]
            · rw [runM_stop hx, goM_stop hx]
          rw [e2, show (a + b).toNat = a.toNat + b.toNat by omega, goM_add]
          simp
      · have e1 : ∀ M : Int, 1 ≤ M → runM L c s M = (s.fail 37, 1) := fun M hM => by
          unfold runM
          rw [if_neg (by omega), if_neg hk]
        rw [e1 a (by omega), e1 (a + b) (by omega), runM_stop (by simp [Ms.fail])]
        simp
  · rw [runM_stop h0, runM_stop h0, runM_stop h0]
    simp
end Go.Proofs.YtnllcmcahfkmaaaDoor
namespace Go.Proofs.YtnllcmcahfkmaaaDoor
set_option maxRecDepth 100000
open Go.RowKit

theorem kL8_ok : ∀ i ∈ kL8, i.ok := by
  intro i hi
  simp only [kL8, List.mem_cons, List.not_mem_nil, or_false] at hi
  rcases hi with rfl | rfl | rfl | rfl <;> exact ⟨by decide, by decide⟩
theorem cx0_ok : cx0.ok := ⟨⟨by decide, by decide⟩, ⟨by decide, by decide⟩, (fun x hx => by cases hx), by decide⟩
theorem ws0_u : U64s ws0 := fun x hx => by
  simp only [ws0, List.mem_cons, List.not_mem_nil, or_false] at hx
  have : x = 0 := by omega
  omega
theorem start_ok {g : Int} {W : List Int} (h0 : 0 ≤ g ∧ g < 18446744073709551616) (hW : W.length = 16) (hu : U64s W) : (startM g W).ok := ⟨h0, (fun x hx => by cases hx), hu, hW, by simp [startM]⟩
theorem k_lit {w : World} (h : w.heap[(0 : Nat)]? = w.heap[(0 : Nat)]?) (g : Nat) (hg : w.heap[g]? = some (.cells #[.int .i64 1, .int .u64 2, .int .i64 1, .int .u64 3, .int .i64 6, .int .u64 0, .int .i64 0, .int .u64 0] 47 (0, 0))) : RwF 2 ins0 PIs w (fun _ => True) (some ⟨g, 0, none⟩) kL8 := by
  have _ := h
  refine .inr ⟨g, 0, rfl, trivial, fun i hi => ?_⟩
  have hi4 : i < 4 := hi
  refine ⟨[.int .i64 (kL8.getD i ins0).op, .int .u64 (kL8.getD i ins0).a], rfl, ?_, rfl⟩
  rw [rowOf_block hg]
  rcases i with _ | _ | _ | _ | i
  · rfl
  · rfl
  · rfl
  · rfl
  · omega
set_option maxHeartbeats 4000000 in
theorem knows8_any (w : World) : Calls Tryd.prog 5 #[] w fun e w' => e = .returned (.bool true) ∧ Below w.heap.size w w' := by
  have bL : Below w.heap.size w (w.alloc (.cells #[.int .i64 1, .int .u64 2, .int .i64 1, .int .u64 3, .int .i64 6, .int .u64 0, .int .i64 0, .int .u64 0] 47)) := (Below.refl _ _).alloc (Nat.le_refl _) _
  have BL := Lib.hid bL
  have RL := Lib.hid (k_lit rfl _ (heap_alloc_new w (.cells #[.int .i64 1, .int .u64 2, .int .i64 1, .int .u64 3, .int .i64 6, .int .u64 0, .int .i64 0, .int .u64 0] 47)))
  have hkl := Tryd.run_klit w
  clear bL
  go_enter Tryd.func5, Tryd.ntmps5
  go_upto_region 2 with fail
  clear hkl
  generalize w.alloc (.cells #[.int .i64 1, .int .u64 2, .int .i64 1, .int .u64 3, .int .i64 6, .int .u64 0, .int .i64 0, .int .u64 0] 47) = w1 at *
  go_wp2_with fail
  refine (Start_any _ 9 ws0_len).mono ?_
  rintro e w2 ⟨rfl, b2⟩
  have B2 := Lib.hid (BL.out.trans (b2.mono BL.out.size))
  have KR := Lib.hid (Run_any (cL := 4) (RL.out.on PIs_ok (by decide) b2) (by decide) kL8_ok (c := cx0) (qi := none) (ki := 0) cx0_ok ⟨none, 0, rfl, .inl rfl⟩ (s := startM 9 ws0) (qs := none) (ks := 0) (start_ok ⟨by decide, by decide⟩ ws0_len ws0_u) ⟨none, 0, rfl, .inl rfl⟩ (M := 99) (by decide))
  rw [k_run] at KR
  unfold RunP cxV at KR
  clear b2 RL BL
  go_wp2_with fail
  refine KR.out.mono ?_
  rintro e w3 ⟨q, k, rfl, RS0, b3⟩
  have RS := rdU_of_own RS0
  clear RS0
  have B3 := B2.out.trans (b3.mono B2.out.size)
  obtain ⟨b, off, rfl, -, cs0⟩ := RS.at (i := 0) (by decide)
  have bA : Below w3.heap.size w3 (w3.alloc (.cells (stRow ms0 none 0).toArray 34)) := (Below.refl _ _).alloc (Nat.le_refl _) _
  have KN : StAt (w3.alloc (.cells (stRow ms0 none 0).toArray 34)) w3.heap.size ms0 none 0 := heap_alloc_new w3 _
  have ct := KN.there ws0_len
  have K9 := Lib.hid (KN.put (s' := ⟨3, 5, 1, 0, [18446744073709551615], ws0⟩) (q' := some ⟨b, off, none⟩) (c' := k) ws0_len ws0_len)
  have BE := Lib.hid (below_setCells' w3.heap.size (Nat.le_trans B3.size (Nat.le_refl _)) (stRow ⟨3, 5, 1, 0, [18446744073709551615], ws0⟩ (some ⟨b, off, none⟩) k) 0 (B3.trans (bA.mono B3.size)))
  have hb3 := lt_of_cell cs0
  have cs9 : Hid (((w3.alloc (.cells (stRow ms0 none 0).toArray 34)).setCells w3.heap.size 0 (stRow ⟨3, 5, 1, 0, [18446744073709551615], ws0⟩ (some ⟨b, off, none⟩) k)).cell? ⟨b, off, none⟩ = some (.int .u64 18446744073709551615)) := by
    show _ = _
    rw [World.cell?_of_block (setCells_other (show b ≠ w3.heap.size from fun e => by rw [e] at hb3; exact Nat.lt_irrefl _ hb3) _ _ _)]
    exact (bA.cell hb3).trans cs0
  have W16 : (⟨3, 5, 1, 0, [18446744073709551615], ws0⟩ : Ms).wds.length = 16 := ws0_len
  clear RS b3 B3 bA KN cs0 hb3 KR
  go_upto_region 3 with fail
  generalize (w3.alloc (.cells (stRow ms0 none 0).toArray 34)).setCells w3.heap.size 0 (stRow ⟨3, 5, 1, 0, [18446744073709551615], ws0⟩ (some ⟨b, off, none⟩) k) = w9 at *
  clear ct
  have e0 : w9.cell? ⟨w3.heap.size, 0, none⟩ = some (.int .i64 3) := (Joins.cell_of_block K9.out 0).trans rfl
  have e1 : w9.cell? ⟨w3.heap.size, 1, none⟩ = some (.int .u64 5) := (Joins.cell_of_block K9.out 1).trans rfl
  have e2 : w9.cell? ⟨w3.heap.size, 2, none⟩ = some (.int .i64 1) := (Joins.cell_of_block K9.out 2).trans rfl
  have e4 : w9.cell? ⟨w3.heap.size, 4, none⟩ = some (.slice (some ⟨b, off, none⟩) 1 k) := (Joins.cell_of_block K9.out 4).trans rfl
  have e5 := cs9.out
  go_wp2_with fail
  go_ret
  exact ⟨rfl, BE.out⟩
end Go.Proofs.YtnllcmcahfkmaaaDoor
