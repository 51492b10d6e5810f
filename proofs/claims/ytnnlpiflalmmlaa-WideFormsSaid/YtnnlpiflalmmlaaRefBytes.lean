/-
  Rows of bytes of one's own; the document's bytes of a number.
-/
import Derived.Test.YtnnlpiflalmmlaaBytes
import Derived.Test.YtnnlpiflalmmlaaFrom
import Derived.Test.YtnnlpiflalmmlaaMemW
namespace Go.Proofs.Ytnnlpiflalmmlaa
set_option maxRecDepth 100000
open Go.RowKit

section
variable {w w' : World} {e : TypeId} {size : Nat} {v : Value} {n : Nat} {xs : List Value}
theorem own_lt (h : w.ownsRow 0 e size v n xs) {k : Nat} (hk : v.ownBlock = some k) : k < w.heap.size := by
  rcases h.2 with ⟨rfl, _⟩ | ⟨g, cap, cur, rfl, _, hg, _⟩
  · simp [Value.ownBlock] at hk
  · obtain rfl : g = k := by simpa [Value.ownBlock] using hk
    exact (Array.getElem?_eq_some_iff.1 hg).1
theorem own_ne (h : w.ownsRow 0 e size v n xs) {p : Nat} {cs : Array Value} {t : TypeId} {fr : Nat × Nat} (hp : w.heap[p]? = some (.cells cs t fr)) (ht : t ≠ e) : v.ownBlock ≠ some p := by
  rcases h.2 with ⟨rfl, _⟩ | ⟨g, cap, cur, rfl, _, hg, _⟩
  · simp [Value.ownBlock]
  · intro hk
    obtain rfl : g = p := by simpa [Value.ownBlock] using hk
    rw [hp] at hg
    simp at hg
    exact ht hg.2.1
theorem own_keep (h : w.ownsRow 0 e size v n xs) (hb : ∀ k, v.ownBlock = some k → w'.heap[k]? = w.heap[k]?) : w'.ownsRow 0 e size v n xs := by
  refine ⟨h.1, ?_⟩
  rcases h.2 with hn | ⟨g, cap, cur, rfl, hq, hg, r⟩
  · exact .inl hn
  · exact .inr ⟨g, cap, cur, rfl, hq, by rw [hb g rfl]; exact hg, r⟩
theorem own_chg2 {S : List Nat} (h : w.ownsRow 0 e size v n xs) (hc : Chg w w' S) (hS : ∀ k, v.ownBlock = some k → k ∉ S) : w'.ownsRow 0 e size v n xs :=
  own_keep h fun k hk => hc.block k (own_lt h hk) (hS k hk)
theorem own_on (h : w.ownsRow 0 e size v n xs) (hb : Below w.heap.size w w') : w'.ownsRow 0 e size v n xs := own_chg2 h (Chg.below hb (Nat.le_refl _) []) (by simp)
theorem own_two {e' : TypeId} {size' : Nat} {v' : Value} {n' : Nat} {xs' : List Value} (h : w.ownsRow 0 e size v n xs) (h' : w.ownsRow 0 e' size' v' n' xs') (ht : e ≠ e') {k : Nat} (hk : v.ownBlock = some k) : v'.ownBlock ≠ some k := by
  rcases h.2 with ⟨rfl, _⟩ | ⟨g, cap, cur, rfl, _, hg, _⟩
  · simp [Value.ownBlock] at hk
  · obtain rfl : g = k := by simpa [Value.ownBlock] using hk
    exact own_ne h' hg ht
theorem own_slice (h : w.ownsRow 0 e size v n xs) : ∃ q c, v = .slice q n c := by
  rcases h.2 with ⟨rfl, rfl⟩ | ⟨g, cap, cur, rfl, _⟩
  · exact ⟨_, _, rfl⟩
  · exact ⟨_, _, rfl⟩
theorem own_empty (w : World) (e : TypeId) (size : Nat) : (w.alloc (.cells #[] e)).ownsRow 0 e size (.slice (some ⟨w.heap.size, 0, none⟩) 0 0) 0 [] :=
  ⟨by simp, .inr ⟨w.heap.size, 0, #[], rfl, Nat.zero_le _, heap_alloc_new w _, Nat.le_refl _, Nat.zero_le _, by simp, by simp⟩⟩
end

theorem Try.infoU8 : (Try.prog.info? 5).map (fun i => (i.zero, i.size, i.bytes)) = some (some (.int .u8 0), 1, 1) := by kernel_rfl
/-- A row of bytes that the call lays. -/
structure BuS (w wr : World) (v : Value) (xs : List Int) : Prop where
  own : wr.ownsRow 0 5 1 v xs.length (bc xs)
  fresh : ∀ g, v.ownBlock = some g → w.heap.size ≤ g
  below : Below w.heap.size w wr
theorem BuS.start (w : World) : BuS w w (.slice none 0 0) [] := ⟨World.ownsRow_nil w 0 _ 1, by simp [Value.ownBlock], Below.refl _ _⟩
theorem BuS.on {w wr w1 : World} {v : Value} {xs : List Int} (h : BuS w wr v xs) (hb : Below wr.heap.size wr w1) : BuS w w1 v xs :=
  ⟨own_on h.own hb, h.fresh, h.below.trans (hb.mono h.below.size)⟩
theorem BuS.grow {w wr w2 : World} {v v' : Value} {xs ys : List Int} {m : Nat} (h : BuS w wr v xs) (hm : ys.length = m) (own : w2.ownsRow 0 5 1 v' (xs.length + m) (bc xs ++ bc ys)) (grow : wr.grownBy w2 v.ownBlock) (fr : v'.ownBlock = v.ownBlock ∨ v'.ownBlock = some wr.heap.size) : BuS w w2 v' (xs ++ ys) := by
  subst hm
  refine ⟨by rw [List.length_append, bc_append]; exact own, fun g hg => ?_, h.below.grown grow h.below.size (fun k hk => h.fresh k hk)⟩
  rcases fr with e | e
  · rw [e] at hg; exact h.fresh g hg
  · rw [e] at hg; have := h.below.size; simp at hg; omega
theorem BuS.rd {w wr : World} {v : Value} {xs : List Int} (h : BuS w wr v xs) : Rd wr v xs := rd_of_row h.own
theorem BuS.of_eq {w wr : World} {v : Value} {xs ys : List Int} (h : BuS w wr v xs) (e : xs = ys) : BuS w wr v ys := e ▸ h
theorem one_rd {w : World} {x : Int} : Rd (w.alloc (.cells #[.int .u8 x] 5)) (.slice (some ⟨w.heap.size, 0, none⟩) 1 1) [x] :=
  ⟨_, 1, rfl, .inr ⟨w.heap.size, 0, rfl, fun j hj => by obtain rfl : j = 0 := (by simpa using hj); exact (Joins.cell_of_block (heap_alloc_new w _) 0).trans rfl⟩⟩

/-- A wide's limbs. -/
structure W4 where
  a : Int
  b : Int
  c : Int
  d : Int
def W4.bytes (x : W4) : List Int := bys (V x.a x.b x.c x.d) 32
theorem W4.len (x : W4) : x.bytes.length = 32 := by simp [W4.bytes, bys]
theorem bys_at (N : Int) (i : Nat) (hi : i < 32) : (bys N 32).getD i 0 = by_ N (31 - i) := by simp [bys, List.getD, hi]
theorem bys_take (N : Int) {j : Nat} (h : j < 32) : (bys N 32).take (j + 1) = (bys N 32).take j ++ [by_ N (31 - j)] := by
  have hl : (bys N 32).length = 32 := by simp [bys]
  rw [List.take_succ_eq_append_getElem (by omega)]
  congr 2
  have := bys_at N j h
  rw [← this]
  simp [List.getD, hl, h]
def limb (x : W4) : Nat → Int
  | 0 => x.a
  | 1 => x.b
  | 2 => x.c
  | _ => x.d
theorem limb_byte {x : W4} (h : D4 x.a x.b x.c x.d) {i m : Nat} (hi : i < 4) (hm : m < 8) : by_ (V x.a x.b x.c x.d) (8 * i + m) = limb x i / 2 ^ (8 * m) % 256 := by
  have e : i = 0 ∨ i = 1 ∨ i = 2 ∨ i = 3 := by omega
  rcases e with rfl | rfl | rfl | rfl
  · have := byte0 (a0 := x.a) (a1 := x.b) (a2 := x.c) (a3 := x.d) hm
    simpa [limb] using this
  · exact byte1 h hm
  · exact byte2 h hm
  · exact byte3 h hm

set_option maxHeartbeats 4000000 in
theorem refBytes_any {x : W4} (hx : D4 x.a x.b x.c x.d) (w : World) :
    Calls Try.prog 27 #[.agg #[.int .u64 x.a, .int .u64 x.b, .int .u64 x.c, .int .u64 x.d]] w fun e w' => ∃ v, e = .returned v ∧ BuS w w' v x.bytes := by
  obtain ⟨i0, hi, hz0, hz1, hz2⟩ := info_parts Try.infoU8
  replace hi := Lib.hid hi
  replace hz0 := Lib.hid hz0
  replace hz1 := Lib.hid hz1
  replace hz2 := Lib.hid hz2
  have HX := Lib.hid hx
  have HA := Lib.hid (heap_alloc_new w (.cells #[.int .u64 x.a, .int .u64 x.b, .int .u64 x.c, .int .u64 x.d] 24))
  have H0 : Hid (BuS w (w.alloc (.cells #[.int .u64 x.a, .int .u64 x.b, .int .u64 x.c, .int .u64 x.d] 24)) (.slice none 0 0) (x.bytes.take 0)) := (BuS.start w).on ((Below.refl _ _).alloc (Nat.le_refl _) _)
  have B0 := Lib.hid ((Below.refl w.heap.size w).alloc (Nat.le_refl _) (.cells #[.int .u64 x.a, .int .u64 x.b, .int .u64 x.c, .int .u64 x.d] 24))
  clear hx
  go_enter Try.func27, Try.ntmps27
  go_wp2_with fail
  generalize hWA : w.alloc (.cells #[.int .u64 x.a, .int .u64 x.b, .int .u64 x.c, .int .u64 x.d] 24) = WA at *
  clear hWA
  have hx32 := x.len
  have hltA := lt_of_block HA.out
  go_loopw [3, 4] (fun ov iv wr => ∃ r : Nat, iv = .int .i64 (3 - (r : Int)) ∧ r ≤ 4 ∧ (∃ q c, ov = .slice q (8 * r) c) ∧ Hid (BuS w wr ov (x.bytes.take (8 * r))) ∧ Hid (wr.heap[w.heap.size]? = WA.heap[w.heap.size]?)) (fun _ iv _ => (intOf iv + 1).toNat)
  case atStart => exact ⟨0, by simp, by omega, ⟨_, _, rfl⟩, H0, Lib.hid rfl⟩
  case round =>
    clear H0
    obtain ⟨r, rfl, hr, ⟨q, c, rfl⟩, hS, hB⟩ := hrel
    by_cases hlt : r < 4
    · have hd : (0 : Int) ≤ 3 - (r : Int) := by omega
      have hd3 : (r : Int) ≤ 3 := by omega
      obtain ⟨wo, rfl⟩ : ∃ wo : World, wo = wr := ⟨_, rfl⟩
      go_wp2_with fail
      go_loopw [3, 5] (fun ov kv wr => ∃ s : Nat, kv = .int .i64 (56 - 8 * (s : Int)) ∧ s ≤ 8 ∧ (∃ q c, ov = .slice q (8 * r + s) c) ∧ Hid (BuS w wr ov (x.bytes.take (8 * r + s))) ∧ Hid (wr.heap[w.heap.size]? = WA.heap[w.heap.size]?)) (fun _ kv _ => (intOf kv + 8).toNat)
      case atStart => exact ⟨0, by simp, by omega, ⟨_, _, rfl⟩, hS, hB⟩
      case round =>
        clear hS hB
        obtain ⟨s, rfl, hs, ⟨q1, c1, rfl⟩, hS, hB⟩ := hrel
        by_cases hst : s < 8
        · have hd2 : (0 : Int) ≤ 56 - 8 * (s : Int) := by omega
          have hl8 : (x.bytes.take (8 * r + s)).length = 8 * r + s := by rw [List.length_take, hx32]; omega
          have hwb : wr.heap[w.heap.size]? = some (.cells #[.int .u64 x.a, .int .u64 x.b, .int .u64 x.c, .int .u64 x.d] 24 (0, 0)) := hB.out.trans HA.out
          have hcl : wr.cell? ⟨w.heap.size, (3 - (r : Int)).toNat, none⟩ = some (.int .u64 (limb x (3 - r))) := by
            rw [Joins.cell_of_block hwb, show (3 - (r : Int)).toNat = 3 - r by omega]
            have e : r = 0 ∨ r = 1 ∨ r = 2 ∨ r = 3 := by omega
            rcases e with rfl | rfl | rfl | rfl <;> rfl
          have hcl2 : wr.cell? ⟨w.heap.size, 3 - r, none⟩ = some (.int .u64 (limb x (3 - r))) := by
            rw [← hcl, show (3 - (r : Int)).toNat = 3 - r by omega]
          have HBY : Hid (x.bytes.take (8 * r + s + 1) = x.bytes.take (8 * r + s) ++ [limb x (3 - r) / 2 ^ (56 - 8 * s) % 256]) := by
            show _ = _
            unfold W4.bytes
            rw [bys_take _ (by omega), show 31 - (8 * r + s) = 8 * (3 - r) + (7 - s) by omega, limb_byte HX.out (by omega) (by omega), show 8 * (7 - s) = 56 - 8 * s by omega]
          clear hwb
          generalize limb x (3 - r) = lv at hcl hcl2 HBY
          have e3 : (3 - (r : Int)) < 4 := by omega
          have OW : (wr.alloc (.cells #[.int .u8 (lv / 2 ^ (56 - 8 * s) % 256)] 5)).ownsRow 0 5 1 (.slice q1 (8 * r + s) c1) (8 * r + s) (bc (x.bytes.take (8 * r + s))) := by
            have := own_on hS.out.own ((Below.refl _ wr).alloc (Nat.le_refl _) (.cells #[.int .u8 (lv / 2 ^ (56 - 8 * s) % 256)] 5))
            rw [hl8] at this; exact this
          go_wp2_with (at_builtin; refine wpList_append_row rfl _ _ rfl Try.underlying42 hi.out hz0.out hz1.out hz2.out rfl OW (Rd.src (P := Try.prog) (xs := [lv / 2 ^ (56 - 8 * s) % 256]) Try.underlying42 ?rd) ?b1 ?b2 ?_)
          case rd => exact one_rd
          case b1 => simp; unfold maxLen; omega
          case b2 => simp; omega
          intro q2 k2 w2 own2 grow2 fr2
          have HN : Hid (BuS w w2 (.slice q2 (8 * r + s + 1) k2) (x.bytes.take (8 * r + s + 1))) := by
            have h := (hS.out.on ((Below.refl _ wr).alloc (Nat.le_refl _) (.cells #[.int .u8 (lv / 2 ^ (56 - 8 * s) % 256)] 5))).grow (ys := [lv / 2 ^ (56 - 8 * s) % 256]) rfl (by rw [hl8]; exact own2) grow2 (fr2.imp id fun e => by rw [e]; simp)
            exact h.of_eq HBY.out.symm
          have HBN : Hid (w2.heap[w.heap.size]? = WA.heap[w.heap.size]?) := by
            show _ = _
            have hle := hS.out.below.size
            have hlw : w.heap.size < wr.heap.size := lt_of_cell hcl2
            rw [grow2.block w.heap.size (by simp; omega) (fun e => by
              have := (own_ne (hS.out.own) (p := w.heap.size) (hB.out.trans HA.out) (by decide)); exact this e.symm), Below.heap_alloc _ _ _ hlw]
            exact hB.out
          clear own2 grow2 fr2 hS hB hcl hcl2 HBY
          go_wp2_with fail
          go_roundw
          case rel => exact ⟨s + 1, by go_num, by omega, ⟨_, _, rfl⟩, HN, HBN⟩
          case measure => simp [intOf]; omega
        · obtain rfl : s = 8 := by omega
          have HN : Hid (BuS w wr (.slice q1 (8 * r + 8) c1) (x.bytes.take (8 * (r + 1)))) := hS
          clear hS
          go_wp2_with fail
          refine ⟨⟨r + 1, by go_num, by omega, ⟨_, _, rfl⟩, HN, hB⟩, by simp [intOf]; omega⟩
    · obtain rfl : r = 4 := by omega
      have HN := Lib.hid (hS.out.of_eq (List.take_of_length_le (by rw [hx32]; omega)))
      clear hS
      go_wp2_with fail
      go_ret
      exact ⟨_, rfl, HN.out⟩
end Go.Proofs.Ytnnlpiflalmmlaa
