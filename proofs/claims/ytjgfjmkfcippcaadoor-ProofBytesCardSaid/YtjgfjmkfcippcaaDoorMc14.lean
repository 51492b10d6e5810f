/-
  The bytes of steps, as the program writes them.; Cells that make a row.; The walks of package codec: a reader that was made, while there is enough to be read.
-/
import Derived.RangeFuncOwn
import Derived.Laws.Cover3
import Derived.Laws.Bits64b
import Derived.Test.YtjgfjmkfcippcaaDoorMc2
import Derived.Test.YtjgfjmkfcippcaaDoorMc3
import Derived.Test.YtjgfjmkfcippcaaDoorMc9
import Derived.Test.YtjgfjmkfcippcaaDoorMc12
import Derived.Test.YtjgfjmkfcippcaaDoorMc13
namespace Go.Proofs.YtjgfjmkfcippcaaDoor
set_option maxRecDepth 100000
open Go.RowKit

/-! ### A literal slice of three hashes -/
def bs3 (t : TypeId) (ps : Array (Nat × Value)) : Sem Value := Instr.buildSlice t 3 ps
@[go_sem ↓] theorem Tryd.slice_h3 (ps : Array (Nat × Value)) : Instr.buildSlice 28 3 ps = bs3 28 ps := rfl
theorem fill_h3 {K O M : List Int} (hK : K.length = 32) (hO : O.length = 32) (hM : M.length = 32) :
    Instr.fill (fun i => some (i * 32, 32)) (hc zero32 ++ (hc zero32 ++ (hc zero32 ++ []))).toArray ((0, Value.agg (hc K).toArray) :: (1, Value.agg (hc O).toArray) :: (2, Value.agg (hc M).toArray) :: []) = some (hc K ++ (hc O ++ hc M)).toArray := by
  have z1 : (hc zero32 ++ (hc zero32 ++ (hc zero32 ++ [])) : List Value) = [] ++ (hc zero32 ++ (hc zero32 ++ (hc zero32 ++ []))) := rfl
  rw [z1, fill_at (i := 0) (off := 0) (size := 32) (vs := hc K) rfl rfl rfl rfl (by rw [hc_len, hK])]
  rw [List.nil_append, fill_at (i := 1) (off := 32) (size := 32) (vs := hc O) rfl rfl (by rw [hc_len, hK]) rfl (by rw [hc_len, hO])]
  rw [show (hc K ++ (hc O ++ (hc zero32 ++ [])) : List Value) = (hc K ++ hc O) ++ (hc zero32 ++ []) by simp]
  rw [fill_at (i := 2) (off := 64) (size := 32) (vs := hc M) rfl rfl (by simp [hc_len, hK, hO]) rfl (by rw [hc_len, hM])]
  simp [Instr.fill]
theorem Tryd.run_h3 (w : World) {K O M : List Int} (hK : K.length = 32) (hO : O.length = 32) (hM : M.length = 32) :
    (bs3 28 #[(0, .agg (hc K).toArray), (1, .agg (hc O).toArray), (2, .agg (hc M).toArray)]).run Tryd.prog w = .ok (.slice (some ⟨w.heap.size, 0, none⟩) 3 3) (w.alloc (.cells (hc K ++ (hc O ++ hc M)).toArray 23)) := by
  have hz : (zeroValue 23).run Tryd.prog w = .ok (.agg (hc zero32).toArray) w := by kernel_rfl
  have hsz : (sizeOf 23).run Tryd.prog w = .ok 32 w := by kernel_rfl
  have e0 : ((Array.range (3 * 32)).map ((hc zero32).toArray[· % (hc zero32).toArray.size]!)) = (hc zero32 ++ (hc zero32 ++ (hc zero32 ++ []))).toArray := by kernel_rfl
  unfold bs3 Instr.buildSlice
  simp only [Sem.run_bind, run_underlying Tryd.underlying28, Result.andThen_ok, hsz]
  rw [if_neg (by omega)]
  rw [if_neg (by omega)]
  simp only [Sem.run_bind, Sem.run_pure, Result.andThen_ok, hz, Value.cells]
  rw [e0, fill_h3 hK hO hM]
  simp [newRow]
theorem h3_rd (w : World) {K O M : List Int} (hK : K.length = 32) (hO : O.length = 32) (hM : M.length = 32) :
    RdHs (w.alloc (.cells (hc K ++ (hc O ++ hc M)).toArray 23)) (some ⟨w.heap.size, 0, none⟩) [K, O, M] := by
  have hb := heap_alloc_new w (.cells (hc K ++ (hc O ++ hc M)).toArray 23)
  refine .inr ⟨w.heap.size, 0, rfl, fun i hi => ?_⟩
  rw [rowOf_block hb]
  have h1 := hc_len K
  have h2 := hc_len O
  have h3 := hc_len M
  have e : i = 0 ∨ i = 1 ∨ i = 2 := by simp at hi; omega
  rcases e with rfl | rfl | rfl
  · have := take_midd [] (hc K) (hc O ++ hc M) (o := 0) (n := 32) rfl (by rw [h1, hK])
    simpa using this
  · have := take_midd (hc K) (hc O) (hc M) (o := 32) (n := 32) (by rw [h1, hK]) (by rw [h2, hO])
    simpa using this
  · have := take_midd (hc K ++ hc O) (hc M) [] (o := 64) (n := 32) (by simp [h1, h2, hK, hO]) (by rw [h3, hM])
    simpa using this

theorem sp_mask {w : World} {b o : Nat} {s : Sp} {v : Value} (ok : s.ok) (h : rowOf w b o 97 = spRow s v) : rowOf w b (o + 64) 32 = hc s.mask := by
  rw [rowOf_sub w b o (j := 64) (n := 32) (m := 97) (by omega), h]
  have := take_midd (hc s.key ++ hc s.old) (hc s.mask) [v] (o := 64) (n := 32) (by simp [hc_len, ok.key, ok.old]) (by rw [hc_len, ok.mask])
  simpa [spRow, pfRow] using this
theorem sp_side {w : World} {b : Nat} {s : Sp} {v : Value} {Z : List Value} (ok : s.ok) (h : StB w b Z) (hZ : spRow s v = Z) : w.cell? ⟨b, 96, none⟩ = some v := by
  rw [Joins.cell_of_block h, ← hZ]
  simp [spRow, pfRow, hc_len, ok.key, ok.old, ok.mask]
theorem stB_parts (A : List Int) (s : Sp) : A ++ stB s = ((A ++ [s.key, s.old, s.mask].flatten) ++ be8 s.sides.length) ++ s.sides.flatten := by simp [stB]

/-- What Put says. -/
def putE (L : List Sp) : Int := if 64 < L.length then 6 else if (∀ j, j < L.length → okS (L.getD j sp0).mask (L.getD j sp0).sides = true) then (if 65536 < (stsB L L.length).length then 6 else 0) else 21
def PutP (L : List Sp) (w : World) (r : Ending) (w' : World) : Prop :=
  (r = .returned (.tuple #[.slice none 0 0, .int .i64 (putE L)]) ∧ putE L ≠ 0 ∧ Below w.heap.size w w') ∨ (∃ u, r = .returned (.tuple #[u, .int .i64 0]) ∧ putE L = 0 ∧ NewRow w (stsB L L.length) u w')

set_option maxHeartbeats 16000000 in
theorem Put6_any {w : World} {q : Option Addr} {c : Nat} {L : List Sp} (hs : RdSp w q L) (ok : SpOk L) (hn : L.length * 120 ≤ 140737488355328) :
    Calls Tryd.prog 37 #[.slice q L.length c] w (PutP L w) := by
  have HS : Hid (∀ W, Below w.heap.size w W → RdSp W q L) := fun W hb => hs.on ok hb
  have OK := Lib.hid ok
  have NN := Lib.hid hn
  have hn2 : L.length ≤ 140737488355328 := by omega
  have B0 := Lib.hid (Below.refl w.heap.size w)
  clear hs ok hn
  by_cases hl : L.length ≤ 64
  · go_enter Tryd.func37, Tryd.ntmps37
    go_wp2_with fail
    go_loopw [15] (fun iv wr => ∃ i : Nat, iv = .int .i64 (i : Int) ∧ i ≤ L.length ∧ Hid (∀ j, j < i → okS (L.getD j sp0).mask (L.getD j sp0).sides = true) ∧ Hid (Below w.heap.size w wr)) (fun iv _ => L.length - (intOf iv).toNat)
    case atStart => exact ⟨0, rfl, by omega, fun j hj => by omega, B0⟩
    case round =>
      clear B0
      obtain ⟨i, rfl, hi, hR, hB⟩ := hrel
      by_cases hlt : i < L.length
      · have oks := OK.out.get hlt
        obtain ⟨b, off, rfl, hx⟩ := (HS.out _ hB.out).resolve_left (fun e => by rw [e] at hlt; simp at hlt)
        obtain ⟨qi, ki, r97, rh⟩ := hx i hlt
        obtain ⟨s, hsx⟩ : ∃ s, L.getD i sp0 = s := ⟨_, rfl⟩
        have HSX := Lib.hid hsx
        rw [hsx] at r97 rh oks
        have OKS := Lib.hid oks
        have lm := oks.mask
        have hlp := pfRow_len oks.mask (.slice qi s.sides.length ki)
        have hns := oks.n32
        have RH : Hid (∀ W, Below wr.heap.size wr W → RdHs W qi s.sides) := fun W hb => rh.on (fun j hj => (oks.hs.get j hj).1) hb
        have hRl := spRow_len oks (.slice qi s.sides.length ki)
        have hRo := Lib.hid (sp_one s qi s.sides.length ki)
        obtain ⟨Z, hZ⟩ : ∃ Z, spRow s (.slice qi s.sides.length ki) = Z := ⟨_, rfl⟩
        have HZZ := Lib.hid hZ
        rw [hZ] at r97 hRl hRo
        have hst := run_storeCells_st (P := Tryd.prog) wr st0 Z st0_len hRl hRo.out
        have B2 : Below wr.heap.size wr ((wr.alloc (.cells st0.toArray 101)).setCells wr.heap.size 0 Z) := below_setCells' _ (Nat.le_refl _) _ _ ((Below.refl _ _).alloc (Nat.le_refl _) _)
        have Q9 := Lib.hid (StB.put wr st0 st0_len hRl)
        have cc : rowOf ((wr.alloc (.cells st0.toArray 101)).setCells wr.heap.size 0 Z) wr.heap.size 64 33 = pfRow s.mask (.slice qi s.sides.length ki) := by
          have h9 : rowOf ((wr.alloc (.cells st0.toArray 101)).setCells wr.heap.size 0 Z) wr.heap.size 0 97 = spRow s (.slice qi s.sides.length ki) := by rw [HZZ.out]; exact Q9.out.row hRl
          have := sp_pf OKS.out h9
          rwa [Nat.zero_add] at this
        have B2h := Lib.hid B2
        have B3 := Lib.hid (hB.out.trans (B2.mono hB.out.size))
        have hlt9 := Q9.out.lt
        clear hx rh oks hsx hZ B2
        go_wp2_with fail
        clear hst r97
        refine (Right_any (k := ki) lm OKS.out.bm (RH.out _ B2h.out) OKS.out.hs (by omega)).mono ?_
        rintro e w5 ⟨rfl, b5⟩
        have B5 := Lib.hid (B3.out.trans (b5.mono B3.out.size))
        clear b5 B3 B2h Q9 cc RH hlt9 hB
        cases hok : okS s.mask s.sides with
        | true =>
          have HR2 : Hid (∀ j, j < i + 1 → okS (L.getD j sp0).mask (L.getD j sp0).sides = true) := fun j hj => by
            by_cases e : j = i
            · subst e; rw [HSX.out]; exact hok
            · exact hR.out j (by omega)
          clear hok
          go_wp2_with fail
          go_roundw
          case rel => exact ⟨i + 1, by go_num, by omega, HR2, B5⟩
          case measure => simp [intOf]; omega
        | false =>
          have HE : Hid (putE L = 21) := by
            show _ = _
            unfold putE
            rw [if_neg (by omega), if_neg (fun h => by have := h i hlt; rw [HSX.out, hok] at this; simp at this)]
          clear hok
          dsimp only
          repeat (first | go_values | go_skip | go_guarded | go_step | go_upon | go_back)
          refine bodyPost_ret (v := .tuple #[.slice none 0 0, .int .i64 21]) (by simp [results, Tryd.results37, go_sem]) rfl (.inl ⟨by rw [HE.out], by rw [HE.out]; decide, B5.out⟩)
      · obtain rfl : i = L.length := by omega
        go_wp2_with fail
        refine (NewWriter_any wr).mono ?_
        rintro e w2 ⟨rfl, rfl⟩
        have b2 : Below wr.heap.size wr (wr.alloc (.cells #[.bool true, .slice none 0 0] 133)) := (Below.refl _ _).alloc (Nat.le_refl _) _
        have W2 := WrV.new wr
        have hz2 : wr.heap.size < (wr.alloc (.cells #[.bool true, .slice none 0 0] 133)).heap.size := W2.lt
        have P2 := Lib.hid (show PuS w (wr.alloc (.cells #[.bool true, .slice none 0 0] 133)) wr.heap.size (.slice none 0 0) [] (stsB L L.length) 0 from ⟨hB.out.trans (b2.mono hB.out.size), hB.out.size, fun g hg => by simp [Value.ownBlock] at hg, [], W2, by simp, .inl ⟨rfl, rfl⟩⟩)
        generalize wr.alloc (.cells #[.bool true, .slice none 0 0] 133) = w2 at *
        obtain ⟨p, hp⟩ : ∃ p, p = wr.heap.size := ⟨_, rfl⟩
        rw [← hp] at P2 hz2 ⊢
        clear hp b2 W2 hB
        have u2 : IntKind.u64.wrap (L.length : Int) = (L.length : Int) := by rw [IntKind.wrap_u64]; omega
        have P3 := Lib.hid (P2.out.on ((Below.refl _ _).alloc (Nat.le_refl _) (.cells #[.int .u64 (L.length : Int)] 105)))
        have c3 := (Joins.cell_of_block (heap_alloc_new w2 (.cells #[.int .u64 (L.length : Int)] 105)) 0).trans (rfl : _ = some (Value.int .u64 (L.length : Int)))
        have C3 := Lib.hid c3
        have hz3 : Hid (w2.heap.size ≠ p ∧ (Value.slice none 0 0).ownBlock ≠ some w2.heap.size) := ⟨by omega, by simp [Value.ownBlock]⟩
        have ez : Hid (([] ++ be8 (L.length : Int)).length ≤ (stsB L L.length).length) := by
          have := stsB_le L 0
          rw [stsB_zero] at this
          show _ ≤ _
          simpa using this
        clear c3 P2
        go_wp2_with fail
        refine (PuUint P3.out C3.out hz3.out ez.out).mono ?_
        rintro e w4 ⟨z, v4, rfl, P4', -⟩
        have P4 : Hid (PuS w w4 p v4 (stsB L 0) (stsB L L.length) z) := by
          rw [stsB_zero]
          have : fstE 0 z = z := if_pos rfl
          rw [this, List.nil_append] at P4'
          exact P4'
        clear P4' P3 C3 hz3 ez hz2 u2
        go_wp2_with fail
        clear hi
        go_wp2_with fail
        go_loopw [7, 33] (fun ev iv wr => ∃ (i : Nat) (e : Int) (v : Value), ev = .int .i64 e ∧ iv = .int .i64 (i : Int) ∧ i ≤ L.length ∧ Hid (PuS w wr p v (stsB L i) (stsB L L.length) e)) (fun _ iv _ => L.length - (intOf iv).toNat)
        case atStart => exact ⟨0, z, v4, rfl, rfl, by omega, P4⟩
        case round =>
          clear P4
          obtain ⟨i, e, v, rfl, rfl, hi, hS⟩ := hrel
          by_cases hlt : i < L.length
          · have oks := OK.out.get hlt
            obtain ⟨b, off, rfl, hx⟩ := (HS.out w (Below.refl _ _)).resolve_left (fun e => by rw [e] at hlt; simp at hlt)
            obtain ⟨qi, ki, r0, rh⟩ := hx i hlt
            have r97 : rowOf wr b (off + i * 97) 97 = spRow (L.getD i sp0) (.slice qi (L.getD i sp0).sides.length ki) := by rw [rowOf_on (by rw [r0, spRow_len oks]; omega) hS.out.below]; exact r0
            have HL1 := Lib.hid (stsB_succ hlt)
            have HL2 := Lib.hid (stsB_le L (i + 1))
            obtain ⟨s, hsx⟩ : ∃ s, L.getD i sp0 = s := ⟨_, rfl⟩
            rw [hsx] at r97 rh oks HL1
            rw [HL1.out, stB_parts] at HL2
            rw [stB_parts] at HL1
            have OKS := Lib.hid oks
            have lk := oks.key
            have lo := oks.old
            have lm := oks.mask
            have hlk := hc_len s.key
            have hlo := hc_len s.old
            have hlm := hc_len s.mask
            have hns := oks.n32
            have RH : Hid (∀ W, Below w.heap.size w W → RdHs W qi s.sides) := fun W hb => rh.on (fun j hj => (oks.hs.get j hj).1) hb
            have RL : Hid (s.sides ≠ [] → ∀ bb oo, qi = some ⟨bb, oo, none⟩ → bb < w.heap.size) := fun hne bb oo e => by subst e; exact rh.lt oks.hs hne
            have hRl := spRow_len oks (.slice qi s.sides.length ki)
            have hRo := Lib.hid (sp_one s qi s.sides.length ki)
            obtain ⟨Z, hZ⟩ : ∃ Z, spRow s (.slice qi s.sides.length ki) = Z := ⟨_, rfl⟩
            have HZZ := Lib.hid hZ
            rw [hZ] at r97 hRl hRo
            have hst := run_storeCells_st (P := Tryd.prog) wr st0 Z st0_len hRl hRo.out
            have B2 : Below wr.heap.size wr ((wr.alloc (.cells st0.toArray 101)).setCells wr.heap.size 0 Z) := below_setCells' _ (Nat.le_refl _) _ _ ((Below.refl _ _).alloc (Nat.le_refl _) _)
            have T := Lib.hid (hS.out.on B2)
            have Q9 := Lib.hid (StB.put wr st0 st0_len hRl)
            have hpw := hS.out.lt
            have N9 : Hid (v.ownBlock ≠ some wr.heap.size) := fun e' => by have := hS.out.ownlt e'; omega
            clear hx r0 rh oks hsx hZ hS B2
            go_wp2_with fail
            clear hst r97
            obtain ⟨w3, hw3⟩ : ∃ w3, (wr.alloc (.cells st0.toArray 101)).setCells wr.heap.size 0 Z = w3 := ⟨_, rfl⟩
            obtain ⟨b9, hb9⟩ : ∃ b9, wr.heap.size = b9 := ⟨_, rfl⟩
            rw [hw3] at T Q9 ⊢
            rw [hb9] at Q9 N9 hpw ⊢
            clear hw3 hb9
            have ne9 : b9 ≠ p := by omega
            have h9 : rowOf w3 b9 0 97 = spRow s (.slice qi s.sides.length ki) := by rw [HZZ.out]; exact Q9.out.row hRl
            have c0 := sp_key OKS.out h9
            have c1 := sp_old OKS.out h9
            have c2 := sp_mask OKS.out h9
            rw [Nat.zero_add] at c1 c2
            have hh3 := Tryd.run_h3 w3 lk lo lm
            have T3 := Lib.hid (T.out.on ((Below.refl _ _).alloc (Nat.le_refl _) (.cells (hc s.key ++ (hc s.old ++ hc s.mask)).toArray 23)))
            have Q93 := Lib.hid (Q9.out.on ((Below.refl _ _).alloc (Nat.le_refl _) (.cells (hc s.key ++ (hc s.old ++ hc s.mask)).toArray 23)))
            have R3 := Lib.hid (h3_rd w3 lk lo lm)
            have D3 : Hid ([s.key, s.old, s.mask] ≠ [] → ∀ b o, some (⟨w3.heap.size, 0, none⟩ : Addr) = some ⟨b, o, none⟩ → b ≠ p ∧ v.ownBlock ≠ some b) := fun _ b' o' e' => by
              obtain ⟨rfl, rfl⟩ : w3.heap.size = b' ∧ 0 = o' := by simpa using e'
              have := T.out.lt
              exact ⟨by omega, fun h => by have := T.out.ownlt h; omega⟩
            have OK3 : Hid (HsOk [s.key, s.old, s.mask]) := fun F hF => by
              have e' : F = s.key ∨ F = s.old ∨ F = s.mask := by simpa using hF
              rcases e' with rfl | rfl | rfl
              · exact ⟨lk, OKS.out.bk⟩
              · exact ⟨lo, OKS.out.bo⟩
              · exact ⟨lm, OKS.out.bm⟩
            have Z3 : Hid ((stsB L i ++ [s.key, s.old, s.mask].flatten).length ≤ (stsB L L.length).length) := by
              show _ ≤ _
              have := HL2.out
              simp only [List.length_append] at this ⊢
              omega
            clear h9 T
            rw [run_rowLoad _ _ _ _ (by rw [c0, hlk, lk]), c0]
            simp only [Result.andThen_ok]
            go_wp2_with fail
            clear hh3 c0 c1 c2
            refine (PuHash (hs := [s.key, s.old, s.mask]) T3.out R3.out OK3.out D3.out (by simp) Z3.out).mono ?_
            rintro r w4 ⟨z1, v1, rfl, P1', F1⟩
            have P1 := Lib.hid P1'
            have Q4 := Lib.hid (show StB w4 b9 Z from (F1.keep b9 Q93.out.lt ne9 N9.out).trans Q93.out)
            have N4 := Lib.hid (F1.ne Q93.out.lt N9.out)
            clear P1' F1 T3 Q93 Q9 R3 D3 OK3 Z3 N9 hpw
            go_wp2_with fail
            refine (first_any w4 e z1).mono ?_
            rintro r w4' ⟨rfl, hw'⟩
            obtain rfl := hw'.symm
            clear hw'
            obtain ⟨e1, he1⟩ : ∃ e1, fstE e z1 = e1 := ⟨_, rfl⟩
            rw [he1] at P1 ⊢
            clear he1
            have c4 := sp_side OKS.out Q4.out HZZ.out
            have u4 : IntKind.u64.wrap (s.sides.length : Int) = (s.sides.length : Int) := by rw [IntKind.wrap_u64]; omega
            have P5 := Lib.hid (P1.out.on ((Below.refl _ _).alloc (Nat.le_refl _) (.cells #[.int .u64 (s.sides.length : Int)] 105)))
            have C5 := Lib.hid ((Joins.cell_of_block (heap_alloc_new w4 (.cells #[.int .u64 (s.sides.length : Int)] 105)) 0).trans (rfl : _ = some (Value.int .u64 (s.sides.length : Int))))
            have Q5 := Lib.hid (Q4.out.on ((Below.refl _ _).alloc (Nat.le_refl _) (.cells #[.int .u64 (s.sides.length : Int)] 105)))
            have D5 : Hid (w4.heap.size ≠ p ∧ v1.ownBlock ≠ some w4.heap.size) := ⟨by have := P1.out.lt; omega, fun h => by have := P1.out.ownlt h; omega⟩
            have Z5 : Hid (((stsB L i ++ [s.key, s.old, s.mask].flatten) ++ be8 (s.sides.length : Int)).length ≤ (stsB L L.length).length) := by
              show _ ≤ _
              have := HL2.out
              simp only [List.length_append] at this ⊢
              omega
            clear P1 Q4
            go_wp2_with fail
            clear c4
            refine (PuUint P5.out C5.out D5.out Z5.out).mono ?_
            rintro r w6 ⟨z2, v2, rfl, P6', F2⟩
            have P6 := Lib.hid P6'
            have Q6 := Lib.hid (show StB w6 b9 Z from (F2.keep b9 Q5.out.lt ne9 N4.out).trans Q5.out)
            clear P6' F2 P5 C5 Q5 D5 Z5 N4 u4
            go_wp2_with fail
            refine (first_any w6 e1 z2).mono ?_
            rintro r w6' ⟨rfl, hw'⟩
            obtain rfl := hw'.symm
            clear hw'
            obtain ⟨e2, he2⟩ : ∃ e2, fstE e1 z2 = e2 := ⟨_, rfl⟩
            rw [he2] at P6 ⊢
            clear he2
            have c6 := sp_side OKS.out Q6.out HZZ.out
            have D6 : Hid (s.sides ≠ [] → ∀ b o, qi = some ⟨b, o, none⟩ → b ≠ p ∧ v2.ownBlock ≠ some b) := fun hne b' o' e' => by
              have := RL.out hne b' o' e'
              exact ⟨by have := P6.out.hp; omega, fun h => by have := P6.out.hv _ h; omega⟩
            go_wp2_with fail
            clear c6
            refine (PuHash (c := ki) P6.out (RH.out _ P6.out.below) OKS.out.hs D6.out (by omega) HL2.out).mono ?_
            rintro r w7 ⟨z3, v3, rfl, P7', -⟩
            have P7 : Hid (PuS w w7 p v3 (stsB L (i + 1)) (stsB L L.length) (fstE e2 z3)) := by
              show PuS _ _ _ _ _ _ _
              rw [HL1.out]; exact P7'
            clear P7' P6 Q6 D6 RH RL HL1 HL2
            go_wp2_with fail
            refine (first_any w7 e2 z3).mono ?_
            rintro r w7' ⟨rfl, hw'⟩
            obtain rfl := hw'.symm
            clear hw'
            obtain ⟨e3, he3⟩ : ∃ e3, fstE e2 z3 = e3 := ⟨_, rfl⟩
            rw [he3] at P7 ⊢
            clear he3
            go_wp2_with fail
            go_roundw
            case rel => exact ⟨i + 1, e3, v3, rfl, by go_num, by omega, P7⟩
            case measure => simp [intOf]; omega
          · obtain rfl : i = L.length := by omega
            obtain ⟨xs, hw, hx, he⟩ := hS.out.has
            have BS := Lib.hid hS.out.below
            have HW := Lib.hid hw
            clear hS hw
            rcases he with ⟨rfl, rfl⟩ | ⟨rfl, h6⟩
            · have HE : Hid (putE L = 0) := by
                show _ = _
                unfold putE
                rw [if_neg (by omega), if_pos hR.out, if_neg (by omega)]
              go_wp2_with fail
              refine (WBytes_any HW.out hx).mono ?_
              rintro r w9 ⟨u, rfl, hN⟩
              have HN := Lib.hid (show NewRow w (stsB L L.length) u w9 from ⟨hN.1, hN.2.1, BS.out.trans (hN.2.2.1.mono BS.out.size), fun g hg => Nat.le_trans BS.out.size (hN.2.2.2 g hg)⟩)
              clear hN
              go_wp2_with fail
              refine bodyPost_ret (v := .tuple #[u, .int .i64 0]) (by simp [results, Tryd.results37, go_sem]) rfl (.inr ⟨u, rfl, HE.out, HN.out⟩)
            · have HE : Hid (putE L = 6) := by
                show _ = _
                unfold putE
                rw [if_neg (by omega), if_pos hR.out, if_pos h6]
              clear hx h6
              go_wp2_with fail
              refine bodyPost_ret (v := .tuple #[.slice none 0 0, .int .i64 6]) (by simp [results, Tryd.results37, go_sem]) rfl (.inl ⟨by rw [HE.out], by rw [HE.out]; decide, BS.out⟩)
  · have HE : Hid (putE L = 6) := by
      show _ = _
      unfold putE
      rw [if_pos (by omega)]
    have hlt : 64 < L.length := by omega
    clear hl
    go_enter Tryd.func37, Tryd.ntmps37
    go_wp2_with fail
    refine bodyPost_ret (v := .tuple #[.slice none 0 0, .int .i64 6]) (by simp [results, Tryd.results37, go_sem]) rfl (.inl ⟨by rw [HE.out], by rw [HE.out]; decide, B0.out⟩)
end Go.Proofs.YtjgfjmkfcippcaaDoor
namespace Go.Proofs.YtjgfjmkfcippcaaDoor
theorem rowOf_cells {w : World} {b o : Nat} {F : List Int} (h : ∀ i, i < F.length → w.cell? ⟨b, o + i, none⟩ = some (.int .u8 (F.getD i 0))) : rowOf w b o F.length = hc F := by
  by_cases h0 : F.length = 0
  · obtain rfl := List.eq_nil_of_length_eq_zero h0
    unfold rowOf
    split <;> simp [hc]
  · obtain ⟨x, hb, hx⟩ := cells_of_cell (h 0 (by omega))
    obtain ⟨cs, t, fr, rfl⟩ : ∃ cs t fr, x = .cells cs t fr := by
      cases x <;> first | exact ⟨_, _, _, rfl⟩ | simp [Obj.isCells] at hx
    rw [rowOf_block hb]
    apply List.ext_getElem?
    intro i
    by_cases hi : i < F.length
    · have := h i hi
      rw [Joins.cell_of_block hb] at this
      have e1 : (cs.extract o (o + F.length)).toList[i]? = cs[o + i]? := by
        simp [List.getElem?_drop, hi]
      rw [e1, this]
      simp [hc, List.getD, hi]
    · have hs : cs.size ≥ o + F.length := by
        have := h (F.length - 1) (by omega)
        rw [Joins.cell_of_block hb] at this
        have := (Array.getElem?_eq_some_iff.1 this).1
        omega
      rw [List.getElem?_eq_none (by simp; omega), List.getElem?_eq_none (by rw [hc_len]; omega)]
end Go.Proofs.YtjgfjmkfcippcaaDoor
namespace Go.Proofs.YtjgfjmkfcippcaaDoor
set_option maxRecDepth 100000
open Go.RowKit

/-- Block p holds a Reader that was made, of the bytes xs, of which pos were passed; v is its slice; there was no error. -/
structure RrV (w : World) (p : Nat) (v : Value) (xs : List Int) (pos : Nat) : Prop where
  blk : w.heap[p]? = some (.cells #[.bool true, v, .int .i64 pos, .int .i64 0] 140 (0, 0))
  own : w.ownsRow 0 5 1 v xs.length (bc xs)
  le : pos ≤ xs.length
  len : xs.length ≤ 140737488355328
section
variable {w w' : World} {p : Nat} {v : Value} {xs : List Int} {pos : Nat}
theorem RrV.lt (h : RrV w p v xs pos) : p < w.heap.size := (Array.getElem?_eq_some_iff.1 h.blk).1
theorem RrV.ne (h : RrV w p v xs pos) : v.ownBlock ≠ some p := by
  rcases h.own.2 with ⟨rfl, _⟩ | ⟨g, cap, cur, rfl, _, hg, _⟩
  · simp [Value.ownBlock]
  · intro e
    obtain rfl : g = p := by simpa [Value.ownBlock] using e
    rw [h.blk] at hg
    simp at hg
theorem own_chg {e : TypeId} {size n : Nat} {ys : List Value} {S : List Nat} (h : w.ownsRow 0 e size v n ys) (hc : Chg w w' S) (hv : ∀ g, v.ownBlock = some g → g ∉ S) : w'.ownsRow 0 e size v n ys := by
  refine ⟨h.1, ?_⟩
  rcases h.2 with hn | ⟨g, cap, cur, rfl, hb, hg, r⟩
  · exact .inl hn
  · exact .inr ⟨g, cap, cur, rfl, hb, by rw [hc.block g (Array.getElem?_eq_some_iff.1 hg).1 (hv g rfl)]; exact hg, r⟩
theorem RrV.chg {S : List Nat} (h : RrV w p v xs pos) (hc : Chg w w' S) (hp : p ∉ S) (hv : ∀ g, v.ownBlock = some g → g ∉ S) : RrV w' p v xs pos :=
  ⟨by rw [hc.block p h.lt hp]; exact h.blk, own_chg h.own hc hv, h.le, h.len⟩
theorem RrV.on (h : RrV w p v xs pos) (hb : Below w.heap.size w w') : RrV w' p v xs pos := h.chg (S := []) (Chg.below hb (Nat.le_refl _) []) (by simp) (fun _ _ => by simp)
theorem RrV.cells (h : RrV w p v xs pos) : w.cell? ⟨p, 0, none⟩ = some (.bool true) ∧ w.cell? ⟨p, 1, none⟩ = some v ∧ w.cell? ⟨p, 2, none⟩ = some (.int .i64 pos) ∧ w.cell? ⟨p, 3, none⟩ = some (.int .i64 0) ∧ w.frozen? ⟨p, 2, none⟩ = false ∧ w.frozen? ⟨p, 3, none⟩ = false :=
  ⟨by rw [Joins.cell_of_block h.blk]; rfl, by rw [Joins.cell_of_block h.blk]; rfl, by rw [Joins.cell_of_block h.blk]; rfl, by rw [Joins.cell_of_block h.blk]; rfl, Joins.unfrozen_of_block h.blk 2, Joins.unfrozen_of_block h.blk 3⟩
theorem RrV.pass (h : RrV w p v xs pos) {q : Nat} (hq : q ≤ xs.length) : RrV (w.setCell ⟨p, 2, none⟩ (.int .i64 q)) p v xs q := by
  refine ⟨by rw [Joins.block_setCell (i := 2) h.blk]; rfl, own_chg h.own ((Chg.refl w [p]).setCell (.inl (by simp)) _) (fun g hg => ?_), hq, h.len⟩
  intro hm
  obtain rfl := List.mem_singleton.1 hm
  exact h.ne hg
end

set_option maxHeartbeats 1000000 in
theorem NewReader_any {w : World} {a : Value} {xs : List Int} (h : Rd w a xs) (hl : xs.length ≤ 140737488355328) :
    Calls Tryd.prog 68 #[a] w fun e w' => ∃ p v, e = .returned (.pointer (some ⟨p, 0, none⟩)) ∧ RrV w' p v xs 0 ∧ w.heap.size ≤ p ∧ Below w.heap.size w w' ∧ ∀ k, v.ownBlock = some k → w.heap.size ≤ k := by
  obtain ⟨i0, hi, hz0, hz1, hz2⟩ := info_parts Tryd.infoU8
  obtain ⟨qv, kv, rfl⟩ := h.len
  have hs := Lib.hid (h.src (P := Tryd.prog) Tryd.underlying64)
  clear h
  replace hi := Lib.hid hi
  replace hz0 := Lib.hid hz0
  replace hz1 := Lib.hid hz1
  replace hz2 := Lib.hid hz2
  go_enter Tryd.func68, Tryd.ntmps68
  go_wp2_with (at_builtin; refine wpList_append_row rfl _ _ rfl Tryd.underlying64 hi.out hz0.out hz1.out hz2.out rfl (World.ownsRow_nil w 0 _ 1) hs.out ?b1 ?b2 ?_)
  case b1 => unfold maxLen; omega
  case b2 => omega
  intro q2 k2 w2 own2 grow2 fr2
  try simp only [Nat.zero_add, List.nil_append] at own2
  try simp only [Nat.zero_add, List.nil_append] at fr2
  try simp only [Nat.zero_add]
  have H2 := Lib.hid own2
  have HB := Lib.hid ((Below.refl w.heap.size w).grown grow2 (Nat.le_refl _) (by intro k hk; simp [Value.ownBlock] at hk))
  have HF : Hid (∀ k, (Value.slice q2 xs.length k2).ownBlock = some k → w.heap.size ≤ k) := fun k hk => by
    rcases fr2 with e | e
    · rw [e] at hk; simp [Value.ownBlock] at hk
    · rw [e] at hk; simp at hk; omega
  clear own2 grow2 fr2 hs
  have hz := HB.out.size
  go_wp2_with fail
  go_ret
  exact ⟨_, _, rfl, ⟨heap_alloc_new w2 _, own_chg H2.out (Chg.below ((Below.refl _ _).alloc (Nat.le_refl _) _) (Nat.le_refl _) []) (fun _ _ => by simp), by omega, hl⟩, hz, HB.out.alloc hz _, HF.out⟩

theorem ready_ok {w : World} {p : Nat} {v : Value} {xs : List Int} {pos : Nat} (h : RrV w p v xs pos) :
    Calls Tryd.prog 86 #[.pointer (some ⟨p, 0, none⟩)] w fun e w' => e = .returned (.bool true) ∧ w = w' := by
  obtain ⟨c0, -, -, c3, -, -⟩ := h.cells
  clear h
  go_enter Tryd.func86, Tryd.ntmps86
  go_wp2_with fail
  go_ret
  exact ⟨rfl, rfl⟩

set_option maxHeartbeats 1000000 in
theorem look_ok {w : World} {p : Nat} {v : Value} {xs : List Int} {pos : Nat} (h : RrV w p v xs pos) {n : Nat} (hn : 0 < n) (hf : pos + n ≤ xs.length) :
    Calls Tryd.prog 88 #[.pointer (some ⟨p, 0, none⟩), .int .i64 n] w fun e w' => ∃ b off c m, e = .returned (.tuple #[.slice (some ⟨b, off, none⟩) n c, .bool true]) ∧ v.ownBlock = some b ∧ n ≤ c ∧ (∀ i, i < n → w.cell? ⟨b, off + i, none⟩ = some (.int .u8 (xs.getD (pos + i) 0))) ∧ w' = w.drewN m := by
  have hlen := h.len
  rcases h.own.2 with ⟨rfl, h0⟩ | ⟨g, cap, cur, rfl, _, hg, hcap, hcm, hcs, htake⟩
  · omega
  have HC : Hid (∀ i, i < n → w.cell? ⟨g, pos + i, none⟩ = some (.int .u8 (xs.getD (pos + i) 0))) := fun i hi => by
    have := h.own.cells (g := g) rfl (pos + i) (.int .u8 (xs.getD (pos + i) 0)) (by simp [bc, List.getD, show pos + i < xs.length by omega])
    rw [addr_add] at this
    simpa using this
  obtain ⟨-, c1, c2, -, -, -⟩ := h.cells
  clear h hg hcs htake
  unfold maxLen at hcm
  have hne : ¬ cap = pos := by omega
  go_enter Tryd.func88, Tryd.ntmps88
  go_wp2_with fail
  go_quiet (fail)
  go_wp2_with fail
  go_quiet (fail)
  go_wp2_with fail
  go_ret2
  refine ⟨g, pos, cap - pos, _, by rw [Nat.add_sub_cancel_left]; rfl, rfl, by omega, HC.out, World.drewN_drewN _ _ _⟩

theorem or_low {a c : Int} (ha : 0 ≤ a ∧ a < 72057594037927936) (hc : 0 ≤ c ∧ c < 256) : bits .or .u64 (a * 256) c = a * 256 + c := by
  obtain ⟨A, rfl⟩ : ∃ A : Nat, a = A := ⟨a.toNat, by omega⟩
  obtain ⟨C, rfl⟩ : ∃ C : Nat, c = C := ⟨c.toNat, by omega⟩
  rw [show ((A : Int) * 256) = ((A * 256 : Nat) : Int) by push_cast; rfl, bits_or_u64_nat _ _ (by omega) (by omega)]
  have := Nat.two_pow_add_eq_or_of_lt (i := 8) (b := C) (by omega) A
  rw [show 2 ^ 8 * A = A * 256 by omega] at this
  rw [← this]
  push_cast
  rfl
theorem num_take {xs : List Int} {k : Nat} (hk : k < xs.length) : num (xs.take (k + 1)) = num (xs.take k) * 256 + xs.getD k 0 := by
  have e : xs.take (k + 1) = xs.take k ++ [xs.getD k 0] := by
    rw [List.take_add_one]
    simp [List.getD, hk]
  rw [e, num, List.foldl_append]
  rfl
theorem num_bd {xs : List Int} (h : Bytes xs) : ∀ k, k ≤ xs.length → 0 ≤ num (xs.take k) ∧ num (xs.take k) < 256 ^ k
  | 0, _ => by simp [num]
  | k + 1, hk => by
    obtain ⟨a, b⟩ := num_bd h k (by omega)
    have hx := h (xs.getD k 0) (by simp [List.getD, show k < xs.length by omega])
    rw [num_take (by omega), Int.pow_succ]
    omega

set_option maxHeartbeats 1000000 in
theorem lookUint_ok {w : World} {p : Nat} {v : Value} {xs : List Int} {pos : Nat} (h : RrV w p v xs pos) (hx : Bytes xs) (hf : pos + 8 ≤ xs.length) :
    Calls Tryd.prog 87 #[.pointer (some ⟨p, 0, none⟩)] w fun e w' => ∃ m, e = .returned (.tuple #[.int .u64 (num ((xs.drop pos).take 8)), .bool true]) ∧ w' = w.drewN m := by
  have H := Lib.hid h
  have hlen := h.len
  have HB : Hid (Bytes ((xs.drop pos).take 8)) := fun x hx' => hx x (List.mem_of_mem_drop (List.mem_of_mem_take hx'))
  have hl8 : ((xs.drop pos).take 8).length = 8 := by simp; omega
  have HG : Hid (∀ i, i < 8 → ((xs.drop pos).take 8).getD i 0 = xs.getD (pos + i) 0) := fun i hi => by simp [List.getD, hi]
  generalize (xs.drop pos).take 8 = ys at HB hl8 HG
  replace hl8 := Lib.hid hl8
  clear h hx
  go_enter Tryd.func87, Tryd.ntmps87
  go_wp2_with fail
  refine (look_ok H.out (n := 8) (by omega) hf).mono ?_
  rintro e w1 ⟨b, off, c, m, rfl, -, hc8, hcell, rfl⟩
  have HC := Lib.hid hcell
  clear hcell
  go_wp2_with fail
  go_loopw [6, 8, 16] (fun nv _ iv wr => ∃ k : Nat, iv = .int .i64 k ∧ k ≤ 8 ∧ nv = .int .u64 (num (ys.take k)) ∧ wr = w.drewN m) (fun _ _ iv _ => 8 - (intOf iv).toNat)
  case atStart => exact ⟨0, rfl, by omega, by simp [num], rfl⟩
  case round =>
    obtain ⟨k, rfl, hk, rfl, rfl⟩ := hrel
    by_cases hlt : k < 8
    · have hc1 := HC.out k hlt
      rw [← HG.out k hlt] at hc1
      have hb := num_bd HB.out k (by rw [hl8.out]; omega)
      have hp : (256 : Int) ^ k ≤ 72057594037927936 := by
        have e : k = 0 ∨ k = 1 ∨ k = 2 ∨ k = 3 ∨ k = 4 ∨ k = 5 ∨ k = 6 ∨ k = 7 := by omega
        rcases e with rfl | rfl | rfl | rfl | rfl | rfl | rfl | rfl <;> decide
      have hy := HB.out (ys.getD k 0) (by simp [List.getD, show k < ys.length by rw [hl8.out]; exact hlt])
      have HN := Lib.hid (num_take (xs := ys) (k := k) (by rw [hl8.out]; exact hlt))
      have HO := Lib.hid (or_low (a := num (ys.take k)) (c := ys.getD k 0) ⟨hb.1, by omega⟩ hy)
      obtain ⟨hn0, hn1⟩ := hb
      have hn2 : num (ys.take k) < 72057594037927936 := by omega
      obtain ⟨hy0, hy1⟩ := hy
      clear hn1 hp
      generalize num (ys.take k) = nk at *
      generalize ys.getD k 0 = yk at *
      go_wp2_with fail
      go_roundw
      case rel => exact ⟨k + 1, by go_num, by omega, by rw [HO.out, ← HN.out], trivial⟩
      case measure => simp [intOf]; omega
    · obtain rfl : k = 8 := by omega
      rw [List.take_of_length_le (by rw [hl8.out]; omega)]
      clear hlt hk
      go_wp2_with fail
      go_ret2
      exact ⟨m, rfl, rfl⟩

theorem Left_ok {w : World} {p : Nat} {v : Value} {xs : List Int} {pos : Nat} (h : RrV w p v xs pos) :
    Calls Tryd.prog 89 #[.pointer (some ⟨p, 0, none⟩)] w fun e w' => ∃ m, e = .returned (.int .i64 ((xs.length : Int) - (pos : Int))) ∧ w' = w.drewN m := by
  have hlen := h.len
  have hle := h.le
  obtain ⟨qv, kv, rfl⟩ := (rd_of_row h.own).len
  obtain ⟨c0, c1, c2, -, -, -⟩ := h.cells
  clear h
  go_enter Tryd.func89, Tryd.ntmps89
  go_wp2_with fail
  go_quiet (fail)
  go_wp2_with fail
  go_ret
  exact ⟨_, rfl, rfl⟩

theorem Done_all {w : World} {p : Nat} {v : Value} {xs : List Int} (h : RrV w p v xs xs.length) :
    Calls Tryd.prog 71 #[.pointer (some ⟨p, 0, none⟩)] w fun e w' => ∃ m, e = .returned (.int .i64 0) ∧ w' = w.drewN m := by
  have H := Lib.hid h
  obtain ⟨c0, -, -, c3, -, -⟩ := h.cells
  clear h
  go_enter Tryd.func71, Tryd.ntmps71
  go_wp2_with fail
  refine (Left_ok H.out).mono ?_
  rintro e w1 ⟨m, rfl, rfl⟩
  rw [Int.sub_self]
  go_wp2_with fail
  go_ret
  exact ⟨m, rfl, rfl⟩

theorem chg_setCells (b : Nat) : ∀ (vs : List Value) (o : Nat) {a w : World}, Chg a w [b] → Chg a (w.setCells b o vs) [b]
  | [], _, _, _, h => h
  | v :: vs, o, _, _, h => chg_setCells b vs (o + 1) (h.setCell (p := ⟨b, o, none⟩) (.inl (by simp)) v)
theorem RrV.drewN {w : World} {p : Nat} {v : Value} {xs : List Int} {pos : Nat} (h : RrV w p v xs pos) (m : Nat) : RrV (w.drewN m) p v xs pos := ⟨h.blk, h.own, h.le, h.len⟩


set_option maxHeartbeats 4000000 in
theorem RHash_ok {w : World} {p : Nat} {v : Value} {xs : List Int} {pos : Nat} (h : RrV w p v xs pos) {ys : List Int} (hl : ys.length = 32) (hf : pos + 32 ≤ xs.length) (hy : (xs.drop pos).take 32 = ys) :
    Calls Tryd.prog 70 #[.pointer (some ⟨p, 0, none⟩)] w fun e w' => e = .returned (.agg (hc ys).toArray) ∧ RrV w' p v xs (pos + 32) ∧ Chg w w' [p] := by
  have hb0 : Below w.heap.size w (w.alloc (.cells (hc zero32).toArray 23)) := (Below.refl _ _).alloc (Nat.le_refl _) _
  have B0 := Lib.hid hb0
  have R0 := Lib.hid (HashAt.new w zero32)
  have H := Lib.hid (h.on hb0)
  have hpl := h.lt
  have hlen := h.len
  have HV : Hid (∀ g, v.ownBlock = some g → g < w.heap.size) := fun g hg => own_lt h.own hg
  have HG : Hid (∀ i, i < 32 → xs.getD (pos + i) 0 = ys.getD i 0) := fun i hi => by
    rw [← hy]; simp [List.getD, hi]
  clear h hy hb0
  go_enter Tryd.func70, Tryd.ntmps70
  go_wp2_with fail
  refine (ready_ok H.out).mono ?_
  rintro e w1 ⟨rfl, rfl⟩
  generalize hW0 : w.alloc (.cells (hc zero32).toArray 23) = W0 at *
  have hs0 : W0.heap.size = w.heap.size + 1 := by rw [← hW0]; simp
  clear hW0
  go_wp2_with fail
  refine (look_ok H.out (n := 32) (by omega) hf).mono ?_
  rintro e w2 ⟨b, off, c, m, rfl, hvb, hc8, hcell, rfl⟩
  have H1 := Lib.hid (H.out.drewN m)
  obtain ⟨-, -, c2, -, f2, -⟩ := H1.out.cells
  have hbp : b ≠ p := fun e => H.out.ne (by rw [hvb, e])
  have hbs := HV.out b hvb
  have HP : Hid (RrV ((W0.drewN m).setCell ⟨p, 2, none⟩ (.int .i64 ((pos : Int) + 32))) p v xs (pos + 32)) := by
    have := H1.out.pass (q := pos + 32) hf
    rw [show ((pos + 32 : Nat) : Int) = (pos : Int) + 32 by push_cast; rfl] at this
    exact this
  have HC : Hid (Chg w ((W0.drewN m).setCell ⟨p, 2, none⟩ (.int .i64 ((pos : Int) + 32))) [p]) :=
    ((Chg.below B0.out (Nat.le_refl _) [p]).trans (show Chg W0 (W0.drewN m) [p] from ⟨rfl, rfl, rfl, Nat.le_refl _, fun _ _ _ => rfl⟩) (fun x hx _ => hx)).setCell (.inl (by simp)) _
  have HCe : Hid (∀ i, i < 32 → ((W0.drewN m).setCell ⟨p, 2, none⟩ (.int .i64 ((pos : Int) + 32))).cell? ⟨b, off + i, none⟩ = some (.int .u8 (ys.getD i 0))) := fun i hi => by
    rw [World.cell?_of_block (w := W0.drewN m) (Below.heap_setCell _ _ _ _ hbp), ← HG.out i hi]
    exact hcell i hi
  have R1 : Hid (HashAt ((W0.drewN m).setCell ⟨p, 2, none⟩ (.int .i64 ((pos : Int) + 32))) w.heap.size zero32) := by
    show _ = _
    rw [Below.heap_setCell _ _ _ _ (by show w.heap.size ≠ p; omega)]; exact R0.out
  have hpn : p ≠ w.heap.size := by omega
  have R1h : HashAt ((W0.drewN m).setCell ⟨p, 2, none⟩ (.int .i64 ((pos : Int) + 32))) w.heap.size zero32 := R1.out
  have hrow : rowOf ((W0.drewN m).setCell ⟨p, 2, none⟩ (.int .i64 ((pos : Int) + 32))) b off 32 = hc ys := by
    have hR := rowOf_cells (w := (W0.drewN m).setCell ⟨p, 2, none⟩ (.int .i64 ((pos : Int) + 32))) (b := b) (o := off) (F := ys) (fun i hi => HCe.out i (by omega))
    rw [hl] at hR
    exact hR
  have hlen2 : (hc ys).length = 32 := by rw [hc_len, hl]
  have hth := R1h.there zero32_len
  have hput := (R1h.put zero32_len hl).row hl
  have X1 : Hid (Chg ((W0.drewN m).setCell ⟨p, 2, none⟩ (.int .i64 ((pos : Int) + 32))) (((W0.drewN m).setCell ⟨p, 2, none⟩ (.int .i64 ((pos : Int) + 32))).setCells w.heap.size 0 (hc ys)) [w.heap.size]) := chg_setCells w.heap.size (hc ys) 0 (Chg.refl _ _)
  have hR := run_arrayAt (P := Tryd.prog) (w := (W0.drewN m).setCell ⟨p, 2, none⟩ (.int .i64 ((pos : Int) + 32))) 23 5 32 (some ⟨b, off, none⟩) 32 c Tryd.underlying23 (Nat.le_refl _)
  clear hcell H1 H B0 R0 HG hvb R1 R1h HCe
  go_wp2_with fail
  refine bodyPost_ret (v := .agg (hc ys).toArray) (by simp [results, Tryd.results70, go_sem, hput, hl]) rfl ⟨rfl, HP.out.chg X1.out (by simpa using hpn) (fun g hg hm => by have := HV.out g hg; simp at hm; omega), HC.out.trans X1.out (fun y hy hl => by simp at hy; omega)⟩

/-- A reader that met an error. -/
def RrF (w : World) (p : Nat) : Prop := ∃ (v : Value) (pos : Nat) (f : Int), f ≠ 0 ∧ w.heap[p]? = some (.cells #[.bool true, v, .int .i64 pos, .int .i64 f] 140 (0, 0))
theorem RrF.on {w w' : World} {p : Nat} (h : RrF w p) (hb : Below w.heap.size w w') : RrF w' p := by
  obtain ⟨v, pos, f, h1, h2⟩ := h
  exact ⟨v, pos, f, h1, by rw [hb.block p (Array.getElem?_eq_some_iff.1 h2).1]; exact h2⟩
theorem RrF.lt {w : World} {p : Nat} (h : RrF w p) : p < w.heap.size := by
  obtain ⟨v, pos, f, h1, h2⟩ := h
  exact (Array.getElem?_eq_some_iff.1 h2).1
theorem RrV.fail {w : World} {p : Nat} {v : Value} {xs : List Int} {pos : Nat} (h : RrV w p v xs pos) {f : Int} (hf : f ≠ 0) : RrF (w.setCell ⟨p, 3, none⟩ (.int .i64 f)) p :=
  ⟨v, pos, f, hf, by rw [Joins.block_setCell (i := 3) h.blk]; rfl⟩
theorem ready_bad {w : World} {p : Nat} (h : RrF w p) :
    Calls Tryd.prog 86 #[.pointer (some ⟨p, 0, none⟩)] w fun e w' => e = .returned (.bool false) ∧ w = w' := by
  obtain ⟨v, pos, f, h1, h2⟩ := h
  have c0 := (Joins.cell_of_block h2 0).trans (rfl : _ = some _)
  have c3 := (Joins.cell_of_block h2 3).trans (rfl : _ = some _)
  have d0 : (f == 0) = false := by simpa using h1
  clear h2
  go_enter Tryd.func86, Tryd.ntmps86
  go_wp2_with fail
  go_ret
  exact ⟨rfl, rfl⟩
set_option maxHeartbeats 1000000 in
theorem look_bad {w : World} {p : Nat} {v : Value} {xs : List Int} {pos : Nat} (h : RrV w p v xs pos) {n : Nat} (hn : n ≤ 64) (hf : xs.length < pos + n) :
    Calls Tryd.prog 88 #[.pointer (some ⟨p, 0, none⟩), .int .i64 n] w fun e w' => e = .returned (.tuple #[.slice none 0 0, .bool false]) ∧ RrF w' p ∧ Chg w w' [p] := by
  have hlen := h.len
  have hle := h.le
  have H := Lib.hid h
  obtain ⟨qv, kv, rfl⟩ := (rd_of_row h.own).len
  obtain ⟨-, c1, c2, -, -, f3⟩ := h.cells
  have hg : (xs.length : Int) - (pos : Int) < (n : Int) := by omega
  have c3 := h.cells.2.2.2.1
  clear h
  go_enter Tryd.func88, Tryd.ntmps88
  go_wp2_with fail
  go_quiet (fail)
  go_wp2_with fail
  have HF : Hid (∀ m, RrF ((w.drewN m).setCell ⟨p, 3, none⟩ (.int .i64 20)) p) := fun m => (H.out.drewN m).fail (by decide)
  have HC : Hid (∀ m, Chg w ((w.drewN m).setCell ⟨p, 3, none⟩ (.int .i64 20)) [p]) := fun m => (show Chg w (w.drewN m) [p] from ⟨rfl, rfl, rfl, Nat.le_refl _, fun _ _ _ => rfl⟩).setCell (.inl (by simp)) _
  go_ret2
  exact ⟨rfl, HF.out _, HC.out _⟩
set_option maxHeartbeats 1000000 in
theorem lookUint_bad {w : World} {p : Nat} {v : Value} {xs : List Int} {pos : Nat} (h : RrV w p v xs pos) (hf : xs.length < pos + 8) :
    Calls Tryd.prog 87 #[.pointer (some ⟨p, 0, none⟩)] w fun e w' => e = .returned (.tuple #[.int .u64 0, .bool false]) ∧ RrF w' p ∧ Chg w w' [p] := by
  have H := Lib.hid h
  clear h
  go_enter Tryd.func87, Tryd.ntmps87
  go_wp2_with fail
  refine (look_bad H.out (n := 8) (by omega) hf).mono ?_
  rintro e w1 ⟨rfl, hF, hC⟩
  have HF := Lib.hid hF
  have HC := Lib.hid hC
  clear hF hC
  go_wp2_with fail
  refine wp_loop_rounds 1 ?_
  rw [rounds_succ]
  go_wp2_with fail
  go_ret2
  exact ⟨rfl, HF.out, HC.out⟩

/-! ### Count -/
theorem Count_bad {w : World} {p : Nat} {most : Int} (h : RrF w p) :
    Calls Tryd.prog 69 #[.pointer (some ⟨p, 0, none⟩), .int .i64 most] w fun e w' => e = .returned (.int .i64 0) ∧ RrF w' p ∧ Chg w w' [p] := by
  have H := Lib.hid h
  clear h
  go_enter Tryd.func69, Tryd.ntmps69
  go_wp2_with fail
  refine (ready_bad H.out).mono ?_
  rintro e w1 ⟨rfl, rfl⟩
  go_wp2_with fail
  go_ret
  exact ⟨rfl, H.out, Chg.refl _ _⟩
theorem Count_end {w : World} {p : Nat} {v : Value} {xs : List Int} {pos : Nat} {most : Int} (h : RrV w p v xs pos) (hf : xs.length < pos + 8) :
    Calls Tryd.prog 69 #[.pointer (some ⟨p, 0, none⟩), .int .i64 most] w fun e w' => e = .returned (.int .i64 0) ∧ RrF w' p ∧ Chg w w' [p] := by
  have H := Lib.hid h
  clear h
  go_enter Tryd.func69, Tryd.ntmps69
  go_wp2_with fail
  refine (ready_ok H.out).mono ?_
  rintro e w1 ⟨rfl, rfl⟩
  go_wp2_with fail
  refine (lookUint_bad H.out hf).mono ?_
  rintro e w1 ⟨rfl, hF, hC⟩
  have HF := Lib.hid hF
  have HC := Lib.hid hC
  clear hF hC
  go_wp2_with fail
  go_ret
  exact ⟨rfl, HF.out, HC.out⟩
set_option maxHeartbeats 2000000 in
theorem Count_big {w : World} {p : Nat} {v : Value} {xs : List Int} {pos : Nat} {most : Nat} (h : RrV w p v xs pos) (hx : Bytes xs) (hm : most ≤ 1000000) (hf : pos + 8 ≤ xs.length) (hz : (most : Int) < num ((xs.drop pos).take 8)) :
    Calls Tryd.prog 69 #[.pointer (some ⟨p, 0, none⟩), .int .i64 most] w fun e w' => e = .returned (.int .i64 0) ∧ RrF w' p ∧ Chg w w' [p] := by
  have H := Lib.hid h
  have HX := Lib.hid hx
  have u0 : IntKind.u64.wrap (most : Int) = (most : Int) := by rw [IntKind.wrap_u64]; omega
  clear h hx
  go_enter Tryd.func69, Tryd.ntmps69
  go_wp2_with fail
  refine (ready_ok H.out).mono ?_
  rintro e w1 ⟨rfl, rfl⟩
  go_wp2_with fail
  refine (lookUint_ok H.out HX.out hf).mono ?_
  rintro e w2 ⟨m, rfl, rfl⟩
  have H1 := Lib.hid (H.out.drewN m)
  have HF : Hid (RrF ((w.drewN m).setCell ⟨p, 3, none⟩ (.int .i64 21)) p) := H1.out.fail (by decide)
  have HC : Hid (Chg w ((w.drewN m).setCell ⟨p, 3, none⟩ (.int .i64 21)) [p]) := (show Chg w (w.drewN m) [p] from ⟨rfl, rfl, rfl, Nat.le_refl _, fun _ _ _ => rfl⟩).setCell (.inl (by simp)) _
  obtain ⟨-, -, -, c3, -, f3⟩ := H1.out.cells
  generalize num ((xs.drop pos).take 8) = z at *
  clear H H1
  go_wp2_with fail
  go_ret
  exact ⟨rfl, HF.out, HC.out⟩
set_option maxHeartbeats 2000000 in
theorem Count_ok {w : World} {p : Nat} {v : Value} {xs : List Int} {pos : Nat} {most : Nat} (h : RrV w p v xs pos) (hx : Bytes xs) (hm : most ≤ 1000000) (hf : pos + 8 ≤ xs.length) {z : Nat} (hz : num ((xs.drop pos).take 8) = z) (hzm : z ≤ most) :
    Calls Tryd.prog 69 #[.pointer (some ⟨p, 0, none⟩), .int .i64 most] w fun e w' => e = .returned (.int .i64 z) ∧ RrV w' p v xs (pos + 8) ∧ Chg w w' [p] := by
  have H := Lib.hid h
  have HX := Lib.hid hx
  have hlen := h.len
  have u0 : IntKind.u64.wrap (most : Int) = (most : Int) := by rw [IntKind.wrap_u64]; omega
  have hzI : ¬ (most : Int) < (z : Int) := by omega
  clear h hx
  go_enter Tryd.func69, Tryd.ntmps69
  go_wp2_with fail
  refine (ready_ok H.out).mono ?_
  rintro e w1 ⟨rfl, rfl⟩
  go_wp2_with fail
  refine (lookUint_ok H.out HX.out hf).mono ?_
  rintro e w2 ⟨m, rfl, rfl⟩
  rw [hz]
  have H1 := Lib.hid (H.out.drewN m)
  have HP : Hid (RrV ((w.drewN m).setCell ⟨p, 2, none⟩ (.int .i64 ((pos : Int) + 8))) p v xs (pos + 8)) := by
    have := H1.out.pass (q := pos + 8) hf
    rw [show ((pos + 8 : Nat) : Int) = (pos : Int) + 8 by push_cast; rfl] at this
    exact this
  have HC : Hid (Chg w ((w.drewN m).setCell ⟨p, 2, none⟩ (.int .i64 ((pos : Int) + 8))) [p]) := (show Chg w (w.drewN m) [p] from ⟨rfl, rfl, rfl, Nat.le_refl _, fun _ _ _ => rfl⟩).setCell (.inl (by simp)) _
  obtain ⟨-, -, c2, -, f2, -⟩ := H1.out.cells
  clear H H1 hz
  go_wp2_with fail
  go_ret
  exact ⟨rfl, HP.out, HC.out⟩

/-! ### Hash, where there is an error; Done -/
theorem Hash_bad {w : World} {p : Nat} (h : RrF w p) :
    Calls Tryd.prog 70 #[.pointer (some ⟨p, 0, none⟩)] w fun e w' => e = .returned (.agg (hc zero32).toArray) ∧ RrF w' p ∧ Chg w w' [p] := by
  have b0 : Below w.heap.size w (w.alloc (.cells (hc zero32).toArray 23)) := (Below.refl _ _).alloc (Nat.le_refl _) _
  have R0 := HashAt.new w zero32
  have H := Lib.hid (h.on b0)
  have hpl := h.lt
  have B0 := Lib.hid b0
  have ct := R0.there zero32_len
  have hput := (R0.put zero32_len zero32_len).row zero32_len
  have lz := hc_len zero32
  have HS : Hid (Chg (w.alloc (.cells (hc zero32).toArray 23)) ((w.alloc (.cells (hc zero32).toArray 23)).setCells w.heap.size 0 (hc zero32)) [w.heap.size]) := chg_setCells w.heap.size (hc zero32) 0 (Chg.refl _ _)
  clear h b0 R0
  go_enter Tryd.func70, Tryd.ntmps70
  go_wp2_with fail
  refine (ready_bad H.out).mono ?_
  rintro e w1 ⟨rfl, rfl⟩
  go_wp2_with fail
  refine bodyPost_ret (v := .agg (hc zero32).toArray) (by simp [results, Tryd.results70, go_sem, hput]) rfl ⟨rfl, ?_, ?_⟩
  · obtain ⟨v, pos, f, h1, h2⟩ := H.out
    exact ⟨v, pos, f, h1, by rw [setCells_other (by omega)]; exact h2⟩
  · exact (Chg.below B0.out (Nat.le_refl _) [p]).trans HS.out (fun x hx hl => by simp at hx; omega)
set_option maxHeartbeats 2000000 in
theorem Hash_end {w : World} {p : Nat} {v : Value} {xs : List Int} {pos : Nat} (h : RrV w p v xs pos) (hf : xs.length < pos + 32) :
    Calls Tryd.prog 70 #[.pointer (some ⟨p, 0, none⟩)] w fun e w' => e = .returned (.agg (hc zero32).toArray) ∧ RrF w' p ∧ Chg w w' [p] := by
  have b0 : Below w.heap.size w (w.alloc (.cells (hc zero32).toArray 23)) := (Below.refl _ _).alloc (Nat.le_refl _) _
  have R0 := Lib.hid (HashAt.new w zero32)
  have H := Lib.hid (h.on b0)
  have hpl := h.lt
  have B0 := Lib.hid b0
  have lz := hc_len zero32
  clear h b0
  go_enter Tryd.func70, Tryd.ntmps70
  go_wp2_with fail
  refine (ready_ok H.out).mono ?_
  rintro e w1 ⟨rfl, rfl⟩
  go_wp2_with fail
  refine (look_bad H.out (n := 32) (by omega) hf).mono ?_
  rintro e w2 ⟨rfl, hF, hC⟩
  have R2 := Lib.hid (R0.out.chg hC (by simp; omega))
  have ct := R2.out.there zero32_len
  have hput := (R2.out.put zero32_len zero32_len).row zero32_len
  have HF := Lib.hid hF
  have HC : Hid (Chg w w2 [p]) := (Chg.below B0.out (Nat.le_refl _) [p]).trans hC (fun x hx _ => hx)
  have HS : Hid (Chg w2 (w2.setCells w.heap.size 0 (hc zero32)) [w.heap.size]) := chg_setCells w.heap.size (hc zero32) 0 (Chg.refl _ _)
  clear hF hC
  go_wp2_with fail
  refine bodyPost_ret (v := .agg (hc zero32).toArray) (by simp [results, Tryd.results70, go_sem, hput]) rfl ⟨rfl, ?_, ?_⟩
  · obtain ⟨v, pos, f, h1, h2⟩ := HF.out
    exact ⟨v, pos, f, h1, by rw [setCells_other (by omega)]; exact h2⟩
  · exact HC.out.trans HS.out (fun x hx hl => by simp at hx; omega)
theorem Done_bad {w : World} {p : Nat} (h : RrF w p) :
    Calls Tryd.prog 71 #[.pointer (some ⟨p, 0, none⟩)] w fun e w' => ∃ f : Int, f ≠ 0 ∧ e = .returned (.int .i64 f) ∧ w' = w := by
  obtain ⟨v, pos, f, h1, h2⟩ := h
  have c0 := (Joins.cell_of_block h2 0).trans (rfl : _ = some _)
  have c3 := (Joins.cell_of_block h2 3).trans (rfl : _ = some _)
  have d0 : (f == 0) = false := by simpa using h1
  have HN := Lib.hid h1
  clear h2 h1
  go_enter Tryd.func71, Tryd.ntmps71
  go_wp2_with fail
  go_ret
  exact ⟨f, HN.out, rfl, rfl⟩
theorem Done_left {w : World} {p : Nat} {v : Value} {xs : List Int} {pos : Nat} (h : RrV w p v xs pos) (hlt : pos < xs.length) :
    Calls Tryd.prog 71 #[.pointer (some ⟨p, 0, none⟩)] w fun e w' => ∃ m, e = .returned (.int .i64 21) ∧ w' = w.drewN m := by
  have H := Lib.hid h
  have hg : (0 : Int) < (xs.length : Int) - (pos : Int) := by omega
  obtain ⟨c0, -, -, c3, -, -⟩ := h.cells
  clear h
  go_enter Tryd.func71, Tryd.ntmps71
  go_wp2_with fail
  refine (Left_ok H.out).mono ?_
  rintro e w1 ⟨m, rfl, rfl⟩
  go_wp2_with fail
  go_ret
  exact ⟨m, rfl, rfl⟩
end Go.Proofs.YtjgfjmkfcippcaaDoor
