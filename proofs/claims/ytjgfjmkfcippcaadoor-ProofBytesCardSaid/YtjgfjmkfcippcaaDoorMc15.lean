/-
  What the program reads of the bytes that it wrote.; The document's reader, with errors.
-/
import Derived.Test.YtjgfjmkfcippcaaDoorMc3
import Derived.Test.YtjgfjmkfcippcaaDoorMc9
import Derived.Test.YtjgfjmkfcippcaaDoorMc13
import Derived.Test.YtjgfjmkfcippcaaDoorMc14
namespace Go.Proofs.YtjgfjmkfcippcaaDoor
set_option maxRecDepth 100000
open Go.RowKit

theorem at_take (A F R : List Int) {n m : Nat} (hn : A.length = n) (hm : F.length = m) : ((A ++ (F ++ R)).drop n).take m = F := by
  subst hn hm
  rw [List.drop_left, List.take_left]
theorem bytes_app {A B : List Int} (ha : Bytes A) (hb : Bytes B) : Bytes (A ++ B) := fun x hx => by
  rcases List.mem_append.1 hx with h | h
  · exact ha x h
  · exact hb x h
theorem stB_bytes {s : Sp} (ok : s.ok) : Bytes (stB s) := bytes_app ok.bk (bytes_app ok.bo (bytes_app ok.bm (bytes_app (be8_bytes _) (flat_bytes ok.hs))))
theorem stsB_bytes {L : List Sp} (ok : SpOk L) (i : Nat) : Bytes (stsB L i) := bytes_app (be8_bytes _) fun x hx => by
  obtain ⟨F, hF, hxF⟩ := List.mem_flatten.1 hx
  obtain ⟨s, hs, rfl⟩ := List.mem_map.1 hF
  exact stB_bytes (ok s (List.mem_of_mem_take hs)) x hxF
theorem stsB_tail {L : List Sp} {i : Nat} (hi : i < L.length) : ∃ R, stsB L L.length = stsB L i ++ ((L.getD i sp0).key ++ ((L.getD i sp0).old ++ ((L.getD i sp0).mask ++ (be8 (L.getD i sp0).sides.length ++ ((L.getD i sp0).sides.flatten ++ R))))) := by
  refine ⟨((L.drop (i + 1)).map stB).flatten, ?_⟩
  have e : L.take L.length = L.take (i + 1) ++ L.drop (i + 1) := by rw [List.take_length, List.take_append_drop]
  have e1 : stsB L L.length = stsB L (i + 1) ++ ((L.drop (i + 1)).map stB).flatten := by
    unfold stsB
    rw [e, List.map_append, List.flatten_append, List.append_assoc]
  rw [e1, stsB_succ hi]
  simp [stB]

/-- Where Get's inner loop stands. -/
structure GiS (w W : World) (g m i : Nat) (L : List Sp) (Q : Nat → Option Addr × Nat) (s : Sp) (p : Nat) (v1 : Value) (xs : List Int) (pos : Nat) (qa : Option Addr) (ca : Nat) (acc : List (List Int)) : Prop where
  gb : GbS w W g m i L Q (spRow s (.slice qa acc.length ca))
  hs : HsS w W (.slice qa acc.length ca) acc
  rd : RrV W p v1 xs pos
  dis : ∀ j, j < i → ∀ k, (Value.slice (Q j).1 (L.getD j sp0).sides.length (Q j).2).ownBlock = some k → (Value.slice qa acc.length ca).ownBlock ≠ some k

theorem flat_drop : ∀ {Ss : List (List Int)}, HsOk Ss → ∀ i, i < Ss.length → (Ss.flatten.drop (32 * i)).take 32 = Ss.getD i []
  | [], _, i, hi => by simp at hi
  | F :: Ss, h, i, hi => by
    have h2 := (h F (List.mem_cons_self ..)).1
    rw [List.flatten_cons]
    cases i with
    | zero => rw [Nat.mul_zero, List.drop_zero]; exact List.take_left' h2
    | succ i =>
      rw [List.drop_append, h2, List.drop_eq_nil_of_le (by omega), List.nil_append, show 32 * (i + 1) - 32 = 32 * i by omega]
      exact flat_drop (fun G hG => h G (List.mem_cons_of_mem _ hG)) i (by simpa using hi)
theorem flat_tail {Ss : List (List Int)} (h : HsOk Ss) (R : List Int) {i : Nat} (hi : i < Ss.length) : ((Ss.flatten ++ R).drop (32 * i)).take 32 = Ss.getD i [] := by
  have hl := flat_len h
  rw [List.drop_append_of_le_length (by omega), List.take_append_of_le_length (by rw [List.length_drop]; omega)]
  exact flat_drop h i hi
theorem take_snoc {Ss : List (List Int)} {j : Nat} (hj : j < Ss.length) : Ss.take (j + 1) = Ss.take j ++ [Ss.getD j []] := by
  rw [List.take_add_one]
  simp [List.getD, hj]
@[go_sem ↓] theorem Tryd.slice_h1 (ps : Array (Nat × Value)) : Instr.buildSlice 28 1 ps = rowNew 28 ps := rfl
theorem Tryd.run_h1 (w : World) (F : List Int) (hF : F.length = 32) :
    (rowNew 28 #[(0, .agg (hc F).toArray)]).run Tryd.prog w = .ok (.slice (some ⟨w.heap.size, 0, none⟩) 1 1) (w.alloc (.cells (hc F).toArray 23)) :=
  run_bs_one w Tryd.underlying28 (by kernel_rfl) (zs := hc zero32) (by kernel_rfl) (n := 32) (by decide) (by decide) (by rw [hc_len, hF])
section
variable {w W W' : World} {g m i p pos ca : Nat} {L : List Sp} {Q : Nat → Option Addr × Nat} {s : Sp} {v1 : Value} {xs : List Int} {qa : Option Addr} {acc : List (List Int)}
theorem GiS.on (h : GiS w W g m i L Q s p v1 xs pos qa ca acc) (hb : Below W.heap.size W W') : GiS w W' g m i L Q s p v1 xs pos qa ca acc := ⟨h.gb.on hb, h.hs.on hb, h.rd.on hb, h.dis⟩
theorem GiS.hash {pos' : Nat} (h : GiS w W g m i L Q s p v1 xs pos qa ca acc) (hc : Chg W W' [p]) (hp : w.heap.size ≤ p) (hg : g ≠ p) (hV : RrV W' p v1 xs pos') : GiS w W' g m i L Q s p v1 xs pos' qa ca acc := by
  have G := h.gb.chg hc (fun k hk => by simp at hk; omega) (by simpa using hg) (fun j hj k hk hm => by
    obtain rfl : k = p := by simpa using hm
    exact h.gb.sides hj h.rd.blk (by decide) hk)
  refine ⟨G, ⟨own_keep h.hs.own (fun k hk => hc.block k (own_lt h.hs.own hk) (fun hm => ?_)), h.hs.ok, h.hs.fresh, G.below⟩, hV, h.dis⟩
  obtain rfl : k = p := by simpa using hm
  exact own_ne h.hs.own h.rd.blk (by decide) hk
theorem GiS.side (h : GiS w W g m i L Q s p v1 xs pos qa ca acc) (ok : s.ok) : W.cell? ⟨g, i * 97 + 96, none⟩ = some (.slice qa acc.length ca) :=
  h.gb.cell (by simp [spRow, pfRow, hc_len, ok.key, ok.old, ok.mask])
theorem GiS.push {w8 : World} {F : List Int} {q8 : Option Addr} {k8 : Nat} (h : GiS w W g m i L Q s p v1 xs pos qa ca acc) (ok : s.ok) (hgp : g ≠ p) (hF : F.length = 32) (bF : Bytes F)
    (own : w8.ownsRow 0 23 32 (.slice q8 (acc.length + 1) k8) (acc.length + 1) (hcs acc ++ hcs [F])) (grow : W.grownBy w8 (Value.slice qa acc.length ca).ownBlock) (fr : (Value.slice q8 (acc.length + 1) k8).ownBlock = (Value.slice qa acc.length ca).ownBlock ∨ (Value.slice q8 (acc.length + 1) k8).ownBlock = some W.heap.size) :
    w8.cell? ⟨g, i * 97 + 96, none⟩ = some (.slice qa acc.length ca) ∧ w8.frozen? ⟨g, i * 97 + 96, none⟩ = false ∧ GiS w (w8.setCell ⟨g, i * 97 + 96, none⟩ (.slice q8 (acc.length + 1) k8)) g m i L Q s p v1 xs pos q8 k8 (acc ++ [F]) := by
  have c8 : Chg W w8 (Value.slice qa acc.length ca).ownBlock.toList := Chg.grown grow (fun g hg => by simp [hg])
  have hS := h.hs.grow (HsOk.one hF bF) (m := 1) rfl own grow fr
  have G8 := h.gb.chg c8 (fun k hk => h.hs.fresh k (by simpa using hk)) (fun hm => own_ne h.hs.own h.gb.blk (by decide) (by simpa using hm)) (fun j hj k hk hm => h.dis j hj k hk (by simpa using hm))
  have V8 := h.rd.chg c8 (fun hm => own_ne h.hs.own h.rd.blk (by decide) (by simpa using hm)) (fun k hk hm => own_two h.rd.own h.hs.own (by decide) hk (by simpa using hm))
  refine ⟨G8.cell (by simp [spRow, pfRow, hc_len, ok.key, ok.old, ok.mask]), Joins.unfrozen_of_block G8.blk _, ?_⟩
  have e1 : spRow s (.slice qa acc.length ca) = (hc s.key ++ (hc s.old ++ hc s.mask)) ++ ([.slice qa acc.length ca] ++ []) := by simp [spRow, pfRow]
  rw [e1] at G8
  have G9 := GbS.put (h := G8) (vs := [.slice q8 (acc.length + 1) k8]) rfl (o := i * 97 + 96) (by simp [hc_len, ok.key, ok.old, ok.mask])
  have e2 : (hc s.key ++ (hc s.old ++ hc s.mask)) ++ ([.slice q8 (acc.length + 1) k8] ++ []) = spRow s (.slice q8 (acc ++ [F]).length k8) := by simp [spRow, pfRow]
  rw [e2] at G9
  have cs : Chg w8 (w8.setCell ⟨g, i * 97 + 96, none⟩ (.slice q8 (acc.length + 1) k8)) [g] := (Chg.refl w8 [g]).setCell (p := ⟨g, _, none⟩) (.inl (by simp)) _
  have hS2 : HsS w (w8.setCell ⟨g, i * 97 + 96, none⟩ (.slice q8 (acc.length + 1) k8)) (.slice q8 (acc.length + 1) k8) (acc ++ [F]) := by
    refine ⟨own_keep hS.own (fun k hk => cs.block k (own_lt hS.own hk) (fun hm => ?_)), hS.ok, hS.fresh, G9.below⟩
    obtain rfl : k = g := by simpa using hm
    exact own_ne hS.own G8.blk (by decide) hk
  refine ⟨G9, by simpa using hS2, V8.chg cs (by simp; omega) (fun k hk hm => by
    obtain rfl : k = g := by simpa using hm
    exact own_ne V8.own G8.blk (by decide) hk), fun j hj k hk => ?_⟩
  have hd := h.dis j hj k hk
  have hk2 := own_lt (h.gb.each j hj).own hk
  simp only [List.length_append, List.length_singleton]
  rcases fr with e | e
  · rw [e]; exact hd
  · rw [e]; simp; omega
end

set_option maxHeartbeats 16000000 in
theorem Get6_back {w : World} {vb : Value} {L : List Sp} (hr : Rd w vb (stsB L L.length)) (ok : SpOk L) (hl : L.length ≤ 64) (hx : (stsB L L.length).length ≤ 65536) (hR : ∀ j, j < L.length → okS (L.getD j sp0).mask (L.getD j sp0).sides = true) :
    Calls Tryd.prog 39 #[vb] w fun r w' => ∃ q c, r = .returned (.tuple #[.slice q L.length c, .int .i64 0]) ∧ RdSp w' q L ∧ Below w.heap.size w w' := by
  obtain ⟨i0, hi, hz0, hz1, hz2⟩ := info_parts Tryd.infoSt
  replace hi := Lib.hid hi
  replace hz0 := Lib.hid hz0
  replace hz1 := Lib.hid hz1
  replace hz2 := Lib.hid hz2
  obtain ⟨iH, hiH, hy0, hy1, hy2⟩ := info_parts Tryd.infoHs
  replace hiH := Lib.hid hiH
  replace hy0 := Lib.hid hy0
  replace hy1 := Lib.hid hy1
  replace hy2 := Lib.hid hy2
  obtain ⟨qv, cv, rfl⟩ := hr.len
  have OK := Lib.hid ok
  have HR := Lib.hid hR
  have BX := Lib.hid (stsB_bytes ok L.length)
  obtain ⟨xs, hxs⟩ : ∃ xs, stsB L L.length = xs := ⟨_, rfl⟩
  have XS := Lib.hid hxs
  have h8 : Hid (8 ≤ xs.length ∧ num ((xs.drop 0).take 8) = L.length) := by
    have e : xs = [] ++ (be8 (L.length : Int) ++ (L.map stB).flatten) := by rw [← hxs]; simp [stsB]
    refine ⟨by rw [e]; simp [be8_len], ?_⟩
    rw [e, at_take [] _ _ (n := 0) rfl (be8_len _), num_be8 (by omega) (by omega)]
  rw [hxs] at hr hx BX ⊢
  have KN := Lib.hid (NewReader_any hr (by omega))
  clear hr hxs hR ok
  go_enter Tryd.func39, Tryd.ntmps39
  go_wp2_with fail
  refine KN.out.mono ?_
  rintro e w1 ⟨p, v1, rfl, hV, hp, hb1, hv1⟩
  have V1 := Lib.hid hV
  have B1 := Lib.hid hb1
  have HV1 := Lib.hid hv1
  clear hV hb1 hv1 KN
  go_wp2_with fail
  refine (Count_ok (most := 64) V1.out BX.out (by omega) (by have := h8.out.1; omega) h8.out.2 hl).mono ?_
  rintro e w2 ⟨rfl, hV2, hc2⟩
  have B2 := Lib.hid (B1.out.trans (hc2.toBelow B1.out.size (fun k hk => by simp at hk; omega)))
  have V2 := Lib.hid hV2
  have hpl := hV2.lt
  clear hV2 hc2 V1 B1
  go_wp2_with (refine wpList_make_full _ rfl _ _ _ rfl 0 _ _ _ _ Tryd.underlying58 hi.out hz0.out hz1.out _ _ _ _ L.length rfl rfl rfl rfl ?b1 ?b2 ?b3 ?_)
  case b1 => rw [hz2.out]; omega
  case b2 => unfold maxLen; omega
  case b3 => omega
  intro w3 own3 grow3
  have b3 : Below w2.heap.size w2 w3 := (Below.refl _ _).grown grow3 (Nat.le_refl _) (by intro k hk; simp at hk)
  have G3 := Lib.hid ((GbS.made (fun _ => (none, 0)) OK.out own3 grow3).base B2.out)
  have V3 := Lib.hid (V2.out.on b3)
  have hpg : p < w2.heap.size := hpl
  obtain ⟨g, hg⟩ : ∃ g, w2.heap.size = g := ⟨_, rfl⟩
  rw [hg] at G3 hpg ⊢
  clear own3 grow3 b3 V2 B2 hpl hg
  go_wp2_with fail
  go_loopw [18] (fun iv wr => ∃ (i : Nat) (Q : Nat → Option Addr × Nat), iv = .int .i64 (i : Int) ∧ i ≤ L.length ∧ Hid (GbS w wr g (L.length - i) i L Q []) ∧ Hid (RrV wr p v1 xs (stsB L i).length)) (fun iv _ => L.length - (intOf iv).toNat)
  case atStart => exact ⟨0, _, rfl, by omega, G3, by rw [stsB_zero, be8_len]; exact V3⟩
  case round =>
    clear G3 V3
    obtain ⟨i, Q, rfl, hil, hG, hV⟩ := hrel
    by_cases hlt : i < L.length
    · have oks := OK.out.get hlt
      have okR := Lib.hid (HR.out i hlt)
      obtain ⟨R, hRx⟩ := stsB_tail hlt
      rw [XS.out] at hRx
      have HN := Lib.hid (stsB_succ hlt)
      have G1 : Hid (GbS w wr g (L.length - (i + 1)) i L Q st0) := by
        have := hG.out
        rw [show L.length - i = (L.length - (i + 1)) + 1 by omega] at this
        exact this.begin
      have GN := Lib.hid (fun (q : Option Addr) (k : Nat) (W : World) (h : GbS w W g (L.length - (i + 1)) i L Q (spRow (L.getD i sp0) (.slice q (L.getD i sp0).sides.length k))) (hs : HsS w W (.slice q (L.getD i sp0).sides.length k) (L.getD i sp0).sides) => h.next hlt hs)
      obtain ⟨s, hsx⟩ : ∃ s, L.getD i sp0 = s := ⟨_, rfl⟩
      rw [hsx] at hRx oks HN GN okR
      obtain ⟨A, hA⟩ : ∃ A, stsB L i = A := ⟨_, rfl⟩
      obtain ⟨a, ha⟩ : ∃ a, A.length = a := ⟨_, rfl⟩
      rw [hA] at hRx HN hV
      rw [ha] at hV
      have OKS := Lib.hid oks
      have lk := oks.key
      have lo := oks.old
      have lm := oks.mask
      have hlk := hc_len s.key
      have hlo := hc_len s.old
      have hlm := hc_len s.mask
      have hns := oks.n32
      have lxs : xs.length = a + (32 + (32 + (32 + (8 + (s.sides.length * 32 + R.length))))) := by
        rw [hRx]; simp only [List.length_append, be8_len, flat_len oks.hs, lk, lo, lm, ha]
      have X0 : Hid ((xs.drop a).take 32 = s.key) := by show _ = _; rw [hRx]; exact at_take A _ _ ha lk
      have X1 : Hid ((xs.drop (a + 32)).take 32 = s.old) := by
        show _ = _
        rw [hRx, ← List.append_assoc]; exact at_take _ _ _ (by simp [ha, lk]) lo
      have X2 : Hid ((xs.drop (a + 32 + 32)).take 32 = s.mask) := by
        show _ = _
        rw [hRx, ← List.append_assoc, ← List.append_assoc]; exact at_take _ _ _ (by simp [ha, lk, lo]) lm
      have X3 : Hid (num ((xs.drop (a + 32 + 32 + 32)).take 8) = s.sides.length) := by
        show _ = _
        rw [hRx, ← List.append_assoc, ← List.append_assoc, ← List.append_assoc, at_take _ _ _ (by simp [ha, lk, lo, lm]) (be8_len _), num_be8 (by omega) (by omega)]
      have X4 : Hid (xs.drop (a + 32 + 32 + 32 + 8) = s.sides.flatten ++ R) := by
        show _ = _
        rw [hRx, ← List.append_assoc, ← List.append_assoc, ← List.append_assoc, ← List.append_assoc]
        exact List.drop_left' (by simp [ha, lk, lo, lm, be8_len])
      have hxl : a + (104 + s.sides.length * 32) ≤ xs.length := by omega
      have h256 : s.sides.length ≤ 256 := by
        have := of_decide_eq_true okR.out
        have h2 := cntI_le s.mask 256
        omega
      clear hG hRx oks hsx lxs
      go_wp2_with fail
      refine (RHash_ok hV.out lk (by omega) X0.out).mono ?_
      rintro e w4 ⟨rfl, hV4, hc4⟩
      have V4 := Lib.hid hV4
      have G4 := Lib.hid (G1.out.chg hc4 (fun k hk => by simp at hk; omega) (by simp; omega) (fun j hj k hk hm => by
        obtain rfl : k = p := by simpa using hm
        exact G1.out.sides hj hV.out.blk (by decide) hk))
      clear hV4 hc4 hV G1
      go_wp2_with fail
      refine (RHash_ok V4.out lo (by omega) X1.out).mono ?_
      rintro e w5 ⟨rfl, hV5, hc5⟩
      have V5 := Lib.hid hV5
      have G5 := Lib.hid (G4.out.chg hc5 (fun k hk => by simp at hk; omega) (by simp; omega) (fun j hj k hk hm => by
        obtain rfl : k = p := by simpa using hm
        exact G4.out.sides hj V4.out.blk (by decide) hk))
      clear hV5 hc5 V4 G4
      go_wp2_with fail
      refine (RHash_ok V5.out lm (by omega) X2.out).mono ?_
      rintro e w6 ⟨rfl, hV6, hc6⟩
      have V6 := Lib.hid hV6
      have G6 := Lib.hid (G5.out.chg hc6 (fun k hk => by simp at hk; omega) (by simp; omega) (fun j hj k hk hm => by
        obtain rfl : k = p := by simpa using hm
        exact G5.out.sides hj V5.out.blk (by decide) hk))
      clear hV6 hc6 V5 G5
      have G7 : Hid (GbS w (w6.setCells g (i * 97) (hc s.key)) g (L.length - (i + 1)) i L Q ([] ++ (hc s.key ++ (hc zero32 ++ pfRow zero32 (.slice none 0 0))))) := Lib.hid (GbS.put (a := []) (mid := hc zero32) (h := G6.out) (by rw [hlk, lk]; rfl) rfl)
      have G8 : Hid (GbS w ((w6.setCells g (i * 97) (hc s.key)).setCells g (i * 97 + 32) (hc s.old)) g (L.length - (i + 1)) i L Q (hc s.key ++ (hc s.old ++ pfRow zero32 (.slice none 0 0)))) := Lib.hid (GbS.put (a := hc s.key) (mid := hc zero32) (h := G7.out) (by rw [hlo, lo]; rfl) (by rw [hlk, lk]))
      have G8' : Hid (GbS w ((w6.setCells g (i * 97) (hc s.key)).setCells g (i * 97 + 32) (hc s.old)) g (L.length - (i + 1)) i L Q ((hc s.key ++ hc s.old) ++ (hc zero32 ++ [.slice none 0 0]))) := by
        have := G8.out
        rw [show hc s.key ++ (hc s.old ++ pfRow zero32 (.slice none 0 0)) = (hc s.key ++ hc s.old) ++ (hc zero32 ++ [.slice none 0 0]) by simp [pfRow]] at this
        exact this
      have G9 : Hid (GbS w (((w6.setCells g (i * 97) (hc s.key)).setCells g (i * 97 + 32) (hc s.old)).setCells g (i * 97 + 64) (hc s.mask)) g (L.length - (i + 1)) i L Q (spRow s (.slice none 0 0))) := by
        have := GbS.put (a := hc s.key ++ hc s.old) (mid := hc zero32) (h := G8'.out) (vs := hc s.mask) (by rw [hlm, lm]; rfl) (o := i * 97 + 64) (by simp [hlk, hlo, lk, lo])
        rw [show (hc s.key ++ hc s.old) ++ (hc s.mask ++ [.slice none 0 0]) = spRow s (.slice none 0 0) by simp [spRow, pfRow]] at this
        exact this
      have t0 := G6.out.there (o := i * 97) (n := 32) (Nat.le_refl _) (by rw [st0_len]; omega)
      have t1 := G7.out.there (o := i * 97 + 32) (n := 32) (by omega) (by simp [hlk, lk, pfRow]; rw [show (hc zero32).length = 32 from rfl]; omega)
      have t2 := G8.out.there (o := i * 97 + 64) (n := 32) (by omega) (by simp [hlk, hlo, lk, lo, pfRow]; rw [show (hc zero32).length = 32 from rfl]; omega)
      have cS : Chg w6 (((w6.setCells g (i * 97) (hc s.key)).setCells g (i * 97 + 32) (hc s.old)).setCells g (i * 97 + 64) (hc s.mask)) [g] := chg_setCells g _ _ (chg_setCells g _ _ (chg_setCells g _ _ (Chg.refl _ _)))
      have V9 := Lib.hid (V6.out.chg cS (by simp; omega) (fun k hk hm => own_ne V6.out.own G6.out.blk (by decide) (by obtain rfl : k = g := by simpa using hm
                                                                                                                      exact hk)))
      clear G6 G7 G8 G8' V6 cS
      go_wp2_with fail
      clear t0 t1 t2
      generalize ((w6.setCells g (i * 97) (hc s.key)).setCells g (i * 97 + 32) (hc s.old)).setCells g (i * 97 + 64) (hc s.mask) = w9 at *
      refine (Count_ok (most := 256) V9.out BX.out (by omega) (by omega) X3.out h256).mono ?_
      rintro e w10 ⟨rfl, hV10, hc10⟩
      have I0 : Hid (GiS w w10 g (L.length - (i + 1)) i L Q s p v1 xs (a + 104 + 32 * 0) none 0 []) := by
        have G10 := G9.out.chg hc10 (fun k hk => by simp at hk; omega) (by simp; omega) (fun j hj k hk hm => by
          obtain rfl : k = p := by simpa using hm
          exact G9.out.sides hj V9.out.blk (by decide) hk)
        rw [show a + 32 + 32 + 32 + 8 = a + 104 + 32 * 0 by omega] at hV10
        exact ⟨G10, ⟨World.ownsRow_nil w10 0 _ 32, HsOk.nil, by simp [Value.ownBlock], G10.below⟩, hV10, fun j hj k hk => by simp [Value.ownBlock]⟩
      clear hV10 hc10 V9 G9
      go_wp2_with fail
      go_loopw [42] (fun iv wr => ∃ (j : Nat) (qa : Option Addr) (ca : Nat), iv = .int .i64 (j : Int) ∧ j ≤ s.sides.length ∧ Hid (GiS w wr g (L.length - (i + 1)) i L Q s p v1 xs (a + 104 + 32 * j) qa ca (s.sides.take j))) (fun iv _ => s.sides.length - (intOf iv).toNat)
      case atStart => exact ⟨0, none, 0, rfl, by omega, I0⟩
      case round =>
        clear I0
        obtain ⟨j, qa, ca, rfl, hjl, hI⟩ := hrel
        by_cases hjt : j < s.sides.length
        · obtain ⟨lF, bF0⟩ := OKS.out.hs.get j hjt
          have bF := Lib.hid bF0
          have XF := Lib.hid (show (xs.drop (a + 104 + 32 * j)).take 32 = s.sides.getD j [] by
            have := X4.out
            rw [show a + 104 + 32 * j = (a + 32 + 32 + 32 + 8) + 32 * j by omega, ← List.drop_drop, this]
            exact flat_tail OKS.out.hs R hjt)
          have TK := Lib.hid (take_snoc hjt)
          obtain ⟨F, hFx⟩ : ∃ F, s.sides.getD j [] = F := ⟨_, rfl⟩
          rw [hFx] at lF bF XF TK
          have hlF := hc_len F
          have lt : (s.sides.take j).length = j := by rw [List.length_take]; omega
          obtain ⟨acc, hacc⟩ : ∃ acc, s.sides.take j = acc := ⟨_, rfl⟩
          rw [hacc] at lt hI TK
          have LT := Lib.hid lt
          clear hFx hacc lt bF0
          go_wp2_with fail
          refine wp_region_held_drew (S := fun _ => True) (by kernel_rfl) (trivial) (fun h0 => ?_)
          replace hI := Lib.hid (hI.out.on ((Below.refl _ _).drew))
          generalize wr.drew = wr at *
          refine wpAnyH_take (i := 0) (v := ?_) (by rw [List.getElem?_toArray]; rfl) (by kernel_rfl) (by kernel_rfl) (by kernel_rfl) (by exact fun _ _ _ h => h) (Or.inl ⟨by rfl, ?_⟩) h0 ?_
          rotate_left
          · intro W hW
            go_simp
            all_goals with_reducible rfl
          try simp only [Act.put, List.setIfInBounds_toArray, List.set_cons_zero, List.set_cons_succ]
          refine wpAnyH_take (i := 1) (v := ?_) (by rw [List.getElem?_toArray]; rfl) (by kernel_rfl) (by kernel_rfl) (by kernel_rfl) (by exact fun _ _ _ h => h) (Or.inl ⟨by rfl, ?_⟩) h0 ?_
          rotate_left
          · intro W hW
            go_simp
            all_goals with_reducible rfl
          try simp only [Act.put, List.setIfInBounds_toArray, List.set_cons_zero, List.set_cons_succ]
          refine wpAnyH_take (i := 2) (v := ?_) (by rw [List.getElem?_toArray]; rfl) (by kernel_rfl) (by kernel_rfl) (by kernel_rfl) (by exact fun _ _ _ h => h) (Or.inl ⟨by rfl, ?_⟩) h0 ?_
          rotate_left
          · intro W hW
            go_simp
            all_goals with_reducible rfl
          try simp only [Act.put, List.setIfInBounds_toArray, List.set_cons_zero, List.set_cons_succ]
          refine wpAnyH_take (i := 3) (v := ?_) (by rw [List.getElem?_toArray]; rfl) (by kernel_rfl) (by kernel_rfl) (by kernel_rfl) (by exact fun _ _ _ h => h) (Or.inl ⟨by rfl, ?_⟩) h0 ?_
          rotate_left
          · intro W hW
            go_simp
            all_goals with_reducible rfl
          try simp only [Act.put, List.setIfInBounds_toArray, List.set_cons_zero, List.set_cons_succ]
          refine wpAnyH_take (i := 4) (v := ?_) (by rw [List.getElem?_toArray]; rfl) (by kernel_rfl) (by kernel_rfl) (by kernel_rfl) (by exact fun _ _ _ h => h) (Or.inl ⟨by rfl, ?_⟩) h0 ?_
          rotate_left
          · intro W hW
            go_simp
            all_goals with_reducible rfl
          try simp only [Act.put, List.setIfInBounds_toArray, List.set_cons_zero, List.set_cons_succ]
          refine wpAnyH_take (i := 6) (v := ?_) (by rw [List.getElem?_toArray]; rfl) (by kernel_rfl) (by kernel_rfl) (by kernel_rfl) (by exact fun _ _ _ h => h) (Or.inl ⟨by rfl, ?_⟩) h0 ?_
          rotate_left
          · intro W hW
            go_simp
            all_goals with_reducible rfl
          try simp only [Act.put, List.setIfInBounds_toArray, List.set_cons_zero, List.set_cons_succ]
          refine wpAnyH_ready (rs := [5, 7]) (by kernel_rfl) (by simp) ?_
          refine AllReadyH.cons (by rw [List.getElem?_toArray]; rfl) (fun K hK => ?_) (AllReadyH.cons (by rw [List.getElem?_toArray]; rfl) (fun K hK => ?_) AllReadyH.nil)
          · rw [if_pos (by rfl)]
            have ld1 := hI.out.side OKS.out
            rw [LT.out] at ld1
            go_wp2_with fail
            clear ld1
            refine hK.out _ _ trivial (fun h1x => ?_)
            clear hK K
            try simp only [Act.put, List.setIfInBounds_toArray, List.set_cons_zero, List.set_cons_succ]
            refine wpAnyH_ready (rs := [7]) (by kernel_rfl) (by simp) ?_
            refine AllReadyH.cons (by rw [List.getElem?_toArray]; rfl) (fun K hK => ?_) AllReadyH.nil
            rw [if_pos (by rfl)]
            go_wp2_with fail
            refine (RHash_ok hI.out.rd lF (by omega) XF.out).mono ?_
            rintro e w2x ⟨rfl, hv2, hc2⟩
            have I2 := Lib.hid (hI.out.hash hc2 (by omega) (by omega) hv2)
            clear hv2 hc2
            go_wp2_with fail
            refine hK.out _ _ trivial (fun h2x => ?_)
            clear hK K
            try simp only [Act.put, List.setIfInBounds_toArray, List.set_cons_zero, List.set_cons_succ]
            refine wpAnyH_ready (rs := [8]) (by kernel_rfl) (by simp) ?_
            refine AllReadyH.cons (by rw [List.getElem?_toArray]; rfl) (fun K hK => ?_) AllReadyH.nil
            rw [if_pos (by rfl)]
            have hsl3 := Tryd.run_h1 w2x F lF
            have I3 := Lib.hid (I2.out.on ((Below.refl _ _).alloc (Nat.le_refl _) (.cells (hc F).toArray 23)))
            have R3 := Lib.hid (one_hs (w := w2x) lF bF.out)
            go_wp2_with fail
            clear hsl3
            refine hK.out _ _ trivial (fun h3x => ?_)
            clear hK K
            try simp only [Act.put, List.setIfInBounds_toArray, List.set_cons_zero, List.set_cons_succ]
            generalize w2x.alloc (.cells (hc F).toArray 23) = w3x at *
            refine wpAnyH_ready (rs := [9]) (by kernel_rfl) (by simp) ?_
            refine AllReadyH.cons (by rw [List.getElem?_toArray]; rfl) (fun K hK => ?_) AllReadyH.nil
            rw [if_pos (by rfl)]
            have OW4 : w3x.ownsRow 0 23 32 (.slice qa j ca) j (hcs acc) := by have := I3.out.hs.own; rw [LT.out] at this; exact this
            refine wp_append_row _ _ rfl Tryd.underlying28 hiH.out hy0.out hy1.out hy2.out zero_cells OW4 (R3.out.src (P := Tryd.prog) (HsOk.one lF bF.out) Tryd.underlying28) (by unfold maxLen; (try simp only [List.length_singleton]); omega) (by (try simp only [List.length_singleton]); omega) ?_
            intro q8 k8 w8 own8' grow8' fr8'
            have P8 := I3.out.push (F := F) (q8 := q8) (k8 := k8) OKS.out (by omega) lF bF.out (by rw [LT.out]; exact own8') (by rw [LT.out]; exact grow8') (by rw [LT.out]; exact fr8')
            rw [LT.out, ← TK.out] at P8
            have z8 := P8.1
            have f8 := P8.2.1
            have I4 : Hid (GiS w (w8.setCell ⟨g, i * 97 + 96, none⟩ (.slice q8 (j + 1) k8)) g (L.length - (i + 1)) i L Q s p v1 xs (a + 104 + 32 * (j + 1)) q8 k8 (s.sides.take (j + 1))) := by
              have := P8.2.2
              rw [show a + 104 + 32 * j + 32 = a + 104 + 32 * (j + 1) by omega] at this
              exact this
            clear own8' grow8' fr8' OW4 P8
            refine hK.out _ _ trivial (fun h4x => ?_)
            clear hK K
            try simp only [Act.put, List.setIfInBounds_toArray, List.set_cons_zero, List.set_cons_succ]
            refine wpAnyH_take (i := 10) (v := ?_) (by rw [List.getElem?_toArray]; rfl) (by kernel_rfl) (by kernel_rfl) (by kernel_rfl) (by exact fun _ _ _ h => h) (Or.inl ⟨by rfl, ?_⟩) h4x ?_
            rotate_left
            · intro W hW
              go_simp
              all_goals with_reducible rfl
            try simp only [Act.put, List.setIfInBounds_toArray, List.set_cons_zero, List.set_cons_succ]
            refine wpAnyH_take (i := 11) (v := ?_) (by rw [List.getElem?_toArray]; rfl) (by kernel_rfl) (by kernel_rfl) (by kernel_rfl) (by exact fun _ _ _ h => h) (Or.inl ⟨by rfl, ?_⟩) h4x ?_
            rotate_left
            · intro W hW
              go_simp
              all_goals with_reducible rfl
            try simp only [Act.put, List.setIfInBounds_toArray, List.set_cons_zero, List.set_cons_succ]
            refine wpAnyH_take (i := 12) (v := ?_) (by rw [List.getElem?_toArray]; rfl) (by kernel_rfl) (by kernel_rfl) (by kernel_rfl) (by exact fun _ _ _ h => h) (Or.inl ⟨by rfl, ?_⟩) h4x ?_
            rotate_left
            · intro W hW
              go_simp
              all_goals with_reducible rfl
            try simp only [Act.put, List.setIfInBounds_toArray, List.set_cons_zero, List.set_cons_succ]
            refine wpAnyH_ready (rs := [13]) (by kernel_rfl) (by simp) ?_
            refine AllReadyH.cons (by rw [List.getElem?_toArray]; rfl) (fun K hK => ?_) AllReadyH.nil
            rw [if_pos (by rfl)]
            go_wp2_with fail
            refine hK.out _ _ trivial (fun h5x => ?_)
            clear hK K
            try simp only [Act.put, List.setIfInBounds_toArray, List.set_cons_zero, List.set_cons_succ]
            refine wpAnyH_done (by kernel_rfl) ?_ _
            have I9 := I4
            clear h5x
            go_wp2_with fail
            go_roundw
            case rel => exact ⟨j + 1, q8, k8, by go_num, by omega, I9⟩
            case measure => simp [intOf]; omega
          · rw [if_pos (by rfl)]
            go_wp2_with fail
            refine (RHash_ok hI.out.rd lF (by omega) XF.out).mono ?_
            rintro e w6x ⟨rfl, hv6, hc6⟩
            have I6 := Lib.hid (hI.out.hash hc6 (by omega) (by omega) hv6)
            clear hv6 hc6
            go_wp2_with fail
            refine hK.out _ _ trivial (fun h6x => ?_)
            clear hK K
            try simp only [Act.put, List.setIfInBounds_toArray, List.set_cons_zero, List.set_cons_succ]
            refine wpAnyH_ready (rs := [5, 8]) (by kernel_rfl) (by simp) ?_
            refine AllReadyH.cons (by rw [List.getElem?_toArray]; rfl) (fun K hK => ?_) (AllReadyH.cons (by rw [List.getElem?_toArray]; rfl) (fun K hK => ?_) AllReadyH.nil)
            · rw [if_pos (by rfl)]
              have ld7 := I6.out.side OKS.out
              rw [LT.out] at ld7
              go_wp2_with fail
              clear ld7
              refine hK.out _ _ trivial (fun h7x => ?_)
              clear hK K
              try simp only [Act.put, List.setIfInBounds_toArray, List.set_cons_zero, List.set_cons_succ]
              refine wpAnyH_ready (rs := [8]) (by kernel_rfl) (by simp) ?_
              refine AllReadyH.cons (by rw [List.getElem?_toArray]; rfl) (fun K hK => ?_) AllReadyH.nil
              rw [if_pos (by rfl)]
              have hsl8 := Tryd.run_h1 w6x F lF
              have I8 := Lib.hid (I6.out.on ((Below.refl _ _).alloc (Nat.le_refl _) (.cells (hc F).toArray 23)))
              have R8 := Lib.hid (one_hs (w := w6x) lF bF.out)
              go_wp2_with fail
              clear hsl8
              refine hK.out _ _ trivial (fun h8x => ?_)
              clear hK K
              try simp only [Act.put, List.setIfInBounds_toArray, List.set_cons_zero, List.set_cons_succ]
              generalize w6x.alloc (.cells (hc F).toArray 23) = w8x at *
              refine wpAnyH_ready (rs := [9]) (by kernel_rfl) (by simp) ?_
              refine AllReadyH.cons (by rw [List.getElem?_toArray]; rfl) (fun K hK => ?_) AllReadyH.nil
              rw [if_pos (by rfl)]
              have OW9 : w8x.ownsRow 0 23 32 (.slice qa j ca) j (hcs acc) := by have := I8.out.hs.own; rw [LT.out] at this; exact this
              refine wp_append_row _ _ rfl Tryd.underlying28 hiH.out hy0.out hy1.out hy2.out zero_cells OW9 (R8.out.src (P := Tryd.prog) (HsOk.one lF bF.out) Tryd.underlying28) (by unfold maxLen; (try simp only [List.length_singleton]); omega) (by (try simp only [List.length_singleton]); omega) ?_
              intro q8 k8 w8 own8' grow8' fr8'
              have P8 := I8.out.push (F := F) (q8 := q8) (k8 := k8) OKS.out (by omega) lF bF.out (by rw [LT.out]; exact own8') (by rw [LT.out]; exact grow8') (by rw [LT.out]; exact fr8')
              rw [LT.out, ← TK.out] at P8
              have z8 := P8.1
              have f8 := P8.2.1
              have I9 : Hid (GiS w (w8.setCell ⟨g, i * 97 + 96, none⟩ (.slice q8 (j + 1) k8)) g (L.length - (i + 1)) i L Q s p v1 xs (a + 104 + 32 * (j + 1)) q8 k8 (s.sides.take (j + 1))) := by
                have := P8.2.2
                rw [show a + 104 + 32 * j + 32 = a + 104 + 32 * (j + 1) by omega] at this
                exact this
              clear own8' grow8' fr8' OW9 P8
              refine hK.out _ _ trivial (fun h9x => ?_)
              clear hK K
              try simp only [Act.put, List.setIfInBounds_toArray, List.set_cons_zero, List.set_cons_succ]
              refine wpAnyH_take (i := 10) (v := ?_) (by rw [List.getElem?_toArray]; rfl) (by kernel_rfl) (by kernel_rfl) (by kernel_rfl) (by exact fun _ _ _ h => h) (Or.inl ⟨by rfl, ?_⟩) h9x ?_
              rotate_left
              · intro W hW
                go_simp
                all_goals with_reducible rfl
              try simp only [Act.put, List.setIfInBounds_toArray, List.set_cons_zero, List.set_cons_succ]
              refine wpAnyH_take (i := 11) (v := ?_) (by rw [List.getElem?_toArray]; rfl) (by kernel_rfl) (by kernel_rfl) (by kernel_rfl) (by exact fun _ _ _ h => h) (Or.inl ⟨by rfl, ?_⟩) h9x ?_
              rotate_left
              · intro W hW
                go_simp
                all_goals with_reducible rfl
              try simp only [Act.put, List.setIfInBounds_toArray, List.set_cons_zero, List.set_cons_succ]
              refine wpAnyH_take (i := 12) (v := ?_) (by rw [List.getElem?_toArray]; rfl) (by kernel_rfl) (by kernel_rfl) (by kernel_rfl) (by exact fun _ _ _ h => h) (Or.inl ⟨by rfl, ?_⟩) h9x ?_
              rotate_left
              · intro W hW
                go_simp
                all_goals with_reducible rfl
              try simp only [Act.put, List.setIfInBounds_toArray, List.set_cons_zero, List.set_cons_succ]
              refine wpAnyH_ready (rs := [13]) (by kernel_rfl) (by simp) ?_
              refine AllReadyH.cons (by rw [List.getElem?_toArray]; rfl) (fun K hK => ?_) AllReadyH.nil
              rw [if_pos (by rfl)]
              go_wp2_with fail
              refine hK.out _ _ trivial (fun h10x => ?_)
              clear hK K
              try simp only [Act.put, List.setIfInBounds_toArray, List.set_cons_zero, List.set_cons_succ]
              refine wpAnyH_done (by kernel_rfl) ?_ _
              have I9 := I9
              clear h10x
              go_wp2_with fail
              go_roundw
              case rel => exact ⟨j + 1, q8, k8, by go_num, by omega, I9⟩
              case measure => simp [intOf]; omega
            · rw [if_pos (by rfl)]
              have hsl11 := Tryd.run_h1 w6x F lF
              have I11 := Lib.hid (I6.out.on ((Below.refl _ _).alloc (Nat.le_refl _) (.cells (hc F).toArray 23)))
              have R11 := Lib.hid (one_hs (w := w6x) lF bF.out)
              go_wp2_with fail
              clear hsl11
              refine hK.out _ _ trivial (fun h11x => ?_)
              clear hK K
              try simp only [Act.put, List.setIfInBounds_toArray, List.set_cons_zero, List.set_cons_succ]
              generalize w6x.alloc (.cells (hc F).toArray 23) = w11x at *
              refine wpAnyH_ready (rs := [5]) (by kernel_rfl) (by simp) ?_
              refine AllReadyH.cons (by rw [List.getElem?_toArray]; rfl) (fun K hK => ?_) AllReadyH.nil
              rw [if_pos (by rfl)]
              have ld12 := I11.out.side OKS.out
              rw [LT.out] at ld12
              go_wp2_with fail
              clear ld12
              refine hK.out _ _ trivial (fun h12x => ?_)
              clear hK K
              try simp only [Act.put, List.setIfInBounds_toArray, List.set_cons_zero, List.set_cons_succ]
              refine wpAnyH_ready (rs := [9]) (by kernel_rfl) (by simp) ?_
              refine AllReadyH.cons (by rw [List.getElem?_toArray]; rfl) (fun K hK => ?_) AllReadyH.nil
              rw [if_pos (by rfl)]
              have OW13 : w11x.ownsRow 0 23 32 (.slice qa j ca) j (hcs acc) := by have := I11.out.hs.own; rw [LT.out] at this; exact this
              refine wp_append_row _ _ rfl Tryd.underlying28 hiH.out hy0.out hy1.out hy2.out zero_cells OW13 (R11.out.src (P := Tryd.prog) (HsOk.one lF bF.out) Tryd.underlying28) (by unfold maxLen; (try simp only [List.length_singleton]); omega) (by (try simp only [List.length_singleton]); omega) ?_
              intro q8 k8 w8 own8' grow8' fr8'
              have P8 := I11.out.push (F := F) (q8 := q8) (k8 := k8) OKS.out (by omega) lF bF.out (by rw [LT.out]; exact own8') (by rw [LT.out]; exact grow8') (by rw [LT.out]; exact fr8')
              rw [LT.out, ← TK.out] at P8
              have z8 := P8.1
              have f8 := P8.2.1
              have I13 : Hid (GiS w (w8.setCell ⟨g, i * 97 + 96, none⟩ (.slice q8 (j + 1) k8)) g (L.length - (i + 1)) i L Q s p v1 xs (a + 104 + 32 * (j + 1)) q8 k8 (s.sides.take (j + 1))) := by
                have := P8.2.2
                rw [show a + 104 + 32 * j + 32 = a + 104 + 32 * (j + 1) by omega] at this
                exact this
              clear own8' grow8' fr8' OW13 P8
              refine hK.out _ _ trivial (fun h13x => ?_)
              clear hK K
              try simp only [Act.put, List.setIfInBounds_toArray, List.set_cons_zero, List.set_cons_succ]
              refine wpAnyH_take (i := 10) (v := ?_) (by rw [List.getElem?_toArray]; rfl) (by kernel_rfl) (by kernel_rfl) (by kernel_rfl) (by exact fun _ _ _ h => h) (Or.inl ⟨by rfl, ?_⟩) h13x ?_
              rotate_left
              · intro W hW
                go_simp
                all_goals with_reducible rfl
              try simp only [Act.put, List.setIfInBounds_toArray, List.set_cons_zero, List.set_cons_succ]
              refine wpAnyH_take (i := 11) (v := ?_) (by rw [List.getElem?_toArray]; rfl) (by kernel_rfl) (by kernel_rfl) (by kernel_rfl) (by exact fun _ _ _ h => h) (Or.inl ⟨by rfl, ?_⟩) h13x ?_
              rotate_left
              · intro W hW
                go_simp
                all_goals with_reducible rfl
              try simp only [Act.put, List.setIfInBounds_toArray, List.set_cons_zero, List.set_cons_succ]
              refine wpAnyH_take (i := 12) (v := ?_) (by rw [List.getElem?_toArray]; rfl) (by kernel_rfl) (by kernel_rfl) (by kernel_rfl) (by exact fun _ _ _ h => h) (Or.inl ⟨by rfl, ?_⟩) h13x ?_
              rotate_left
              · intro W hW
                go_simp
                all_goals with_reducible rfl
              try simp only [Act.put, List.setIfInBounds_toArray, List.set_cons_zero, List.set_cons_succ]
              refine wpAnyH_ready (rs := [13]) (by kernel_rfl) (by simp) ?_
              refine AllReadyH.cons (by rw [List.getElem?_toArray]; rfl) (fun K hK => ?_) AllReadyH.nil
              rw [if_pos (by rfl)]
              go_wp2_with fail
              refine hK.out _ _ trivial (fun h14x => ?_)
              clear hK K
              try simp only [Act.put, List.setIfInBounds_toArray, List.set_cons_zero, List.set_cons_succ]
              refine wpAnyH_done (by kernel_rfl) ?_ _
              have I9 := I13
              clear h14x
              go_wp2_with fail
              go_roundw
              case rel => exact ⟨j + 1, q8, k8, by go_num, by omega, I9⟩
              case measure => simp [intOf]; omega
        · obtain rfl : j = s.sides.length := by omega
          have hI2 : Hid (GiS w wr g (L.length - (i + 1)) i L Q s p v1 xs (a + 104 + 32 * s.sides.length) qa ca s.sides) := by
            have := hI.out
            rw [List.take_length] at this
            exact this
          clear hI
          have h97 := hI2.out.gb.row (spRow_len OKS.out _)
          have cc := sp_pf OKS.out h97
          have hlp := pfRow_len lm (.slice qa s.sides.length ca)
          clear h97
          go_wp2_with fail
          clear cc
          refine (Right_any (k := ca) lm OKS.out.bm hI2.out.hs.rd.2.1 OKS.out.hs (by omega)).mono ?_
          rintro e w12 ⟨rfl, hb12⟩
          rw [okR.out]
          have G12 := Lib.hid (GN.out qa ca w12 (hI2.out.gb.on hb12) (hI2.out.hs.on hb12))
          have V12 : Hid (RrV w12 p v1 xs (stsB L (i + 1)).length) := by
            have := hI2.out.rd.on hb12
            rw [show a + 104 + 32 * s.sides.length = (stsB L (i + 1)).length by
              rw [HN.out]; simp only [stB, List.length_append, be8_len, flat_len OKS.out.hs, lk, lo, lm, ha]; omega] at this
            exact this
          clear hb12 hI2
          go_wp2_with fail
          go_roundw
          case rel => exact ⟨i + 1, _, by go_num, by omega, G12, V12⟩
          case measure => simp [intOf]; omega
    · obtain rfl : i = L.length := by omega
      have VE : Hid (RrV wr p v1 xs xs.length) := by
        have := hV.out
        rw [XS.out] at this
        exact this
      have RE := Lib.hid hG.out.rd
      have BE := Lib.hid hG.out.below
      clear hG hV
      go_wp2_with fail
      refine (Done_all VE.out).mono ?_
      rintro e w12 ⟨m, rfl, rfl⟩
      have b12 := below_drewN (Below.refl wr.heap.size wr) m
      have RE2 := Lib.hid (RE.out.on OK.out b12)
      have BE2 := Lib.hid (BE.out.trans (b12.mono BE.out.size))
      clear b12 RE BE VE
      go_wp2_with fail
      refine bodyPost_ret (v := .tuple #[.slice (some ⟨g, 0, none⟩) L.length L.length, .int .i64 0]) (by simp [results, Tryd.results39, go_sem]) rfl ⟨_, _, rfl, RE2.out, BE2.out⟩
end Go.Proofs.YtjgfjmkfcippcaaDoor
namespace Go.Proofs.YtjgfjmkfcippcaaDoor
set_option maxRecDepth 100000
open Go.RowKit

structure DrV (w : World) (p : Nat) (v : Value) (xs : List Int) (pos : Nat) : Prop where
  blk : w.heap[p]? = some (.cells #[v, .int .i64 pos, .int .i64 0] 146 (0, 0))
  own : w.ownsRow 0 5 1 v xs.length (bc xs)
  le : pos ≤ xs.length
  len : xs.length ≤ 140737488355328
section
variable {w w' : World} {p : Nat} {v : Value} {xs : List Int} {pos : Nat}
theorem DrV.lt (h : DrV w p v xs pos) : p < w.heap.size := (Array.getElem?_eq_some_iff.1 h.blk).1
theorem DrV.ne (h : DrV w p v xs pos) : v.ownBlock ≠ some p := own_ne h.own h.blk (by decide)
theorem DrV.chg {S : List Nat} (h : DrV w p v xs pos) (hc : Chg w w' S) (hp : p ∉ S) (hv : ∀ g, v.ownBlock = some g → g ∉ S) : DrV w' p v xs pos :=
  ⟨by rw [hc.block p h.lt hp]; exact h.blk, own_chg h.own hc hv, h.le, h.len⟩
theorem DrV.on (h : DrV w p v xs pos) (hb : Below w.heap.size w w') : DrV w' p v xs pos := h.chg (S := []) (Chg.below hb (Nat.le_refl _) []) (by simp) (fun _ _ => by simp)
theorem DrV.drewN (h : DrV w p v xs pos) (m : Nat) : DrV (w.drewN m) p v xs pos := ⟨h.blk, h.own, h.le, h.len⟩
theorem DrV.pass (h : DrV w p v xs pos) {q : Nat} (hq : q ≤ xs.length) : DrV (w.setCell ⟨p, 1, none⟩ (.int .i64 q)) p v xs q := by
  refine ⟨by rw [Joins.block_setCell (i := 1) h.blk]; rfl, own_chg h.own ((Chg.refl w [p]).setCell (.inl (by simp)) _) (fun g hg => ?_), hq, h.len⟩
  intro hm
  obtain rfl := List.mem_singleton.1 hm
  exact h.ne hg
end
def DrF (w : World) (p : Nat) : Prop := ∃ (v : Value) (pos : Int) (f : Int), f ≠ 0 ∧ w.heap[p]? = some (.cells #[v, .int .i64 pos, .int .i64 f] 146 (0, 0))
theorem DrF.on {w w' : World} {p : Nat} (h : DrF w p) (hb : Below w.heap.size w w') : DrF w' p := by
  obtain ⟨v, pos, f, h1, h2⟩ := h
  exact ⟨v, pos, f, h1, by rw [hb.block p (Array.getElem?_eq_some_iff.1 h2).1]; exact h2⟩
theorem DrF.lt {w : World} {p : Nat} (h : DrF w p) : p < w.heap.size := by
  obtain ⟨v, pos, f, h1, h2⟩ := h
  exact (Array.getElem?_eq_some_iff.1 h2).1

set_option maxHeartbeats 1000000 in
theorem rdNew_any {w : World} {a : Value} {xs : List Int} (h : Rd w a xs) (hl : xs.length ≤ 140737488355328) :
    Calls Tryd.prog 72 #[a] w fun e w' => ∃ p v, e = .returned (.pointer (some ⟨p, 0, none⟩)) ∧ DrV w' p v xs 0 ∧ w.heap.size ≤ p ∧ Below w.heap.size w w' ∧ ∀ k, v.ownBlock = some k → w.heap.size ≤ k := by
  obtain ⟨i0, hi, hz0, hz1, hz2⟩ := info_parts Tryd.infoU8
  obtain ⟨qv, kv, rfl⟩ := h.len
  have b1 : Below w.heap.size w (w.alloc (.cells #[] 5)) := (Below.refl _ _).alloc (Nat.le_refl _) _
  have hs := Lib.hid ((h.on b1).src (P := Tryd.prog) Tryd.underlying64)
  have E1 := own_empty w 5 1
  clear h
  replace hi := Lib.hid hi
  replace hz0 := Lib.hid hz0
  replace hz1 := Lib.hid hz1
  replace hz2 := Lib.hid hz2
  go_enter Tryd.func72, Tryd.ntmps72
  go_wp2_with (at_builtin; refine wpList_append_row rfl _ _ rfl Tryd.underlying64 hi.out hz0.out hz1.out hz2.out rfl E1 hs.out ?b1 ?b2 ?_)
  case b1 => unfold maxLen; omega
  case b2 => omega
  intro q2 k2 w2 own2 grow2 fr2
  try simp only [Nat.zero_add, List.nil_append] at own2
  try simp only [Nat.zero_add, List.nil_append] at fr2
  try simp only [Nat.zero_add]
  have H2 := Lib.hid own2
  have HB := Lib.hid (b1.grown grow2 b1.size (by intro k hk; simp [Value.ownBlock] at hk; omega))
  have HF : Hid (∀ k, (Value.slice q2 xs.length k2).ownBlock = some k → w.heap.size ≤ k) := fun k hk => by
    rcases fr2 with e | e
    · rw [e] at hk; simp [Value.ownBlock] at hk; omega
    · rw [e] at hk; simp at hk; omega
  clear own2 grow2 fr2 hs E1 b1
  have hz := HB.out.size
  go_wp2_with fail
  go_ret
  exact ⟨_, _, rfl, ⟨heap_alloc_new w2 _, own_chg H2.out (Chg.below ((Below.refl _ _).alloc (Nat.le_refl _) _) (Nat.le_refl _) []) (fun _ _ => by simp), by omega, hl⟩, hz, HB.out.alloc hz _, HF.out⟩

theorem rdLeft_ok {w : World} {p : Nat} {v : Value} {xs : List Int} {pos : Nat} (h : DrV w p v xs pos) :
    Calls Tryd.prog 92 #[.pointer (some ⟨p, 0, none⟩)] w fun e w' => ∃ m, e = .returned (.int .i64 ((xs.length : Int) - (pos : Int))) ∧ w' = w.drewN m := by
  have hlen := h.len
  have hle := h.le
  obtain ⟨qv, kv, rfl⟩ := (rd_of_row h.own).len
  have c0 := (Joins.cell_of_block h.blk 0).trans (rfl : _ = some _)
  have c1 := (Joins.cell_of_block h.blk 1).trans (rfl : _ = some _)
  clear h
  go_enter Tryd.func92, Tryd.ntmps92
  go_wp2_with fail
  go_quiet (fail)
  go_wp2_with fail
  go_ret
  exact ⟨_, rfl, rfl⟩

theorem rdTake_bad {w : World} {p : Nat} {n : Int} (h : DrF w p) :
    Calls Tryd.prog 112 #[.pointer (some ⟨p, 0, none⟩), .int .i64 n] w fun e w' => e = .returned (.slice none 0 0) ∧ w' = w := by
  obtain ⟨v, pos, f, h1, h2⟩ := h
  have c2 := (Joins.cell_of_block h2 2).trans (rfl : _ = some _)
  have d0 : (f == 0) = false := by simpa using h1
  clear h2 h1
  go_enter Tryd.func112, Tryd.ntmps112
  go_wp2_with fail
  go_ret
  exact ⟨rfl, rfl⟩
set_option maxHeartbeats 1000000 in
theorem rdTake_end {w : World} {p : Nat} {v : Value} {xs : List Int} {pos n : Nat} (h : DrV w p v xs pos) (_hn : n ≤ 64) (hf : xs.length < pos + n) :
    Calls Tryd.prog 112 #[.pointer (some ⟨p, 0, none⟩), .int .i64 n] w fun e w' => e = .returned (.slice none 0 0) ∧ DrF w' p ∧ Chg w w' [p] := by
  have H := Lib.hid h
  have hlen := h.len
  have hle := h.le
  have hg : (xs.length : Int) - (pos : Int) < (n : Int) := by omega
  have c2 := (Joins.cell_of_block h.blk 2).trans (rfl : _ = some _)
  clear h
  go_enter Tryd.func112, Tryd.ntmps112
  go_wp2_with fail
  refine (rdLeft_ok H.out).mono ?_
  rintro e w1 ⟨m, rfl, rfl⟩
  have H1 := H.out.drewN m
  have c2 := (Joins.cell_of_block H1.blk 2).trans (rfl : _ = some _)
  have f2 := Joins.unfrozen_of_block H1.blk 2
  have HF : Hid (DrF ((w.drewN m).setCell ⟨p, 2, none⟩ (.int .i64 20)) p) := ⟨v, pos, 20, by decide, by rw [Joins.block_setCell (i := 2) H1.blk]; rfl⟩
  have HC : Hid (Chg w ((w.drewN m).setCell ⟨p, 2, none⟩ (.int .i64 20)) [p]) := (show Chg w (w.drewN m) [p] from ⟨rfl, rfl, rfl, Nat.le_refl _, fun _ _ _ => rfl⟩).setCell (.inl (by simp)) _
  clear H1
  go_wp2_with fail
  go_ret
  exact ⟨rfl, HF.out, HC.out⟩
set_option maxHeartbeats 4000000 in
theorem rdTake_ok {w : World} {p : Nat} {v : Value} {xs : List Int} {pos n : Nat} (h : DrV w p v xs pos) (hn0 : 0 < n) (hn : n ≤ 64) (hf : pos + n ≤ xs.length) :
    Calls Tryd.prog 112 #[.pointer (some ⟨p, 0, none⟩), .int .i64 n] w fun e w' => ∃ q c, e = .returned (.slice q n c) ∧ Rd w' (.slice q n c) ((xs.drop pos).take n) ∧ DrV w' p v xs (pos + n) ∧ Chg w w' [p] ∧ ∀ a, q = some a → w.heap.size ≤ a.block := by
  obtain ⟨i0, hi, hz0, hz1, hz2⟩ := info_parts Tryd.infoU8
  replace hi := Lib.hid hi
  replace hz0 := Lib.hid hz0
  replace hz1 := Lib.hid hz1
  replace hz2 := Lib.hid hz2
  have hlen := h.len
  have hpl := h.lt
  rcases h.own.2 with ⟨rfl, h0⟩ | ⟨g, cap, cur, rfl, _, hg, hcap, hcm, hcs, htake⟩
  · omega
  have H := Lib.hid h
  have lT : ((xs.drop pos).take n).length = n := by simp; omega
  have c2 := (Joins.cell_of_block h.blk 2).trans (rfl : _ = some _)
  have hle : ¬ (xs.length : Int) - (pos : Int) < (n : Int) := by omega
  unfold maxLen at hcm
  have hne : ¬ cap = pos := by omega
  clear h hg hcs htake
  go_enter Tryd.func112, Tryd.ntmps112
  go_wp2_with fail
  refine (rdLeft_ok H.out).mono ?_
  rintro e w0 ⟨m, rfl, rfl⟩
  have H1 := Lib.hid (H.out.drewN m)
  have c1 := (Joins.cell_of_block H1.out.blk 1).trans (rfl : _ = some _)
  have c2 := (Joins.cell_of_block H1.out.blk 2).trans (rfl : _ = some _)
  have f1 := Joins.unfrozen_of_block H1.out.blk 1
  have D1 : Hid (DrV ((w.drewN m).setCell ⟨p, 1, none⟩ (.int .i64 ((pos : Int) + (n : Int)))) p (.slice (some ⟨g, 0, none⟩) xs.length cap) xs (pos + n)) := by
    have := H1.out.pass (q := pos + n) hf
    rw [show ((pos + n : Nat) : Int) = (pos : Int) + (n : Int) by push_cast; rfl] at this
    exact this
  have C1 : Hid (Chg w ((w.drewN m).setCell ⟨p, 1, none⟩ (.int .i64 ((pos : Int) + (n : Int)))) [p]) := (show Chg w (w.drewN m) [p] from ⟨rfl, rfl, rfl, Nat.le_refl _, fun _ _ _ => rfl⟩).setCell (.inl (by simp)) _
  clear H
  go_wp2_with fail
  clear c1 c2 f1 H1
  generalize hw1 : (w.drewN m).setCell ⟨p, 1, none⟩ (.int .i64 ((pos : Int) + (n : Int))) = w1 at *
  clear hw1
  have HP1 : Hid (w1.heap[p]? = some (.cells #[.slice (some ⟨g, 0, none⟩) xs.length cap, .int .i64 ((pos : Int) + (n : Int)), .int .i64 0] 146 (0, 0))) := by
    have := D1.out.blk
    rw [show ((pos + n : Nat) : Int) = (pos : Int) + (n : Int) by push_cast; rfl] at this
    exact this
  have HRD : Hid (Rd w1 (.slice (some ⟨g, pos, none⟩) n (cap - pos)) ((xs.drop pos).take n)) := by
    refine ⟨_, cap - pos, by rw [lT], .inr ⟨g, pos, rfl, fun i hi => ?_⟩⟩
    rw [lT] at hi
    have := D1.out.own.cells (g := g) rfl (pos + i) (.int .u8 (xs.getD (pos + i) 0)) (by simp [bc, List.getD, show pos + i < xs.length by omega])
    rw [addr_add, Nat.zero_add] at this
    rw [this]
    simp [List.getD, hi]
  have k1 : IntKind.i64.wrap ((pos : Int) + (n : Int) - (n : Int)) = (pos : Int) := by rw [Int.add_sub_cancel]; exact IntWalk.i64_in _ (by omega)
  have k2 : IntKind.i64.wrap (pos : Int) = (pos : Int) := IntWalk.i64_in _ (by omega)
  have j5 : (0 : Int) ≤ (pos : Int) + (n : Int) := by omega
  have j0 : (0 : Int) ≤ (pos : Int) := by omega
  have j1 : (pos : Int) ≤ (pos : Int) + (n : Int) := by omega
  have j2 : (pos : Int) + (n : Int) ≤ (cap : Int) := by omega
  have j3 : ((pos : Int) + (n : Int)).toNat = pos + n := by omega
  have j4 : pos + n - pos = n := by omega
  refine wp_region_held_drew (S := fun W => W.heap[p]? = some (.cells #[.slice (some ⟨g, 0, none⟩) xs.length cap, .int .i64 ((pos : Int) + (n : Int)), .int .i64 0] 146 (0, 0))) (by kernel_rfl) (HP1.out) (fun h0 => ?_)
  refine wpAnyH_take (i := 1) (v := ?_) (by rw [List.getElem?_toArray]; rfl) (by kernel_rfl) (by kernel_rfl) (by kernel_rfl) (by exact fun _ _ _ h => h) (Or.inl ⟨by rfl, ?_⟩) h0 ?_
  rotate_left
  · intro W hW
    go_simp
    all_goals with_reducible rfl
  try simp only [Act.put, List.setIfInBounds_toArray, List.set_cons_zero, List.set_cons_succ]
  refine wpAnyH_take (i := 2) (v := ?_) (by rw [List.getElem?_toArray]; rfl) (by kernel_rfl) (by kernel_rfl) (by kernel_rfl) (by exact fun _ _ _ h => h) (Or.inl ⟨by rfl, ?_⟩) h0 ?_
  rotate_left
  · intro W hW
    go_simp
    all_goals with_reducible rfl
  try simp only [Act.put, List.setIfInBounds_toArray, List.set_cons_zero, List.set_cons_succ]
  refine wpAnyH_take (i := 3) (v := ?_) (by rw [List.getElem?_toArray]; rfl) (by kernel_rfl) (by kernel_rfl) (by kernel_rfl) (by exact fun _ _ _ h => h) (Or.inl ⟨by rfl, ?_⟩) h0 ?_
  rotate_left
  · intro W hW
    go_simp
    all_goals with_reducible rfl
  try simp only [Act.put, List.setIfInBounds_toArray, List.set_cons_zero, List.set_cons_succ]
  refine wpAnyH_take (i := 4) (v := ?_) (by rw [List.getElem?_toArray]; rfl) (by kernel_rfl) (by kernel_rfl) (by kernel_rfl) (by exact fun _ _ _ h => h) (Or.inl ⟨by rfl, ?_⟩) h0 ?_
  rotate_left
  · intro W hW
    have cc := (Joins.cell_of_block hW 0).trans (rfl : _ = some _)
    go_simp
    all_goals with_reducible rfl
  try simp only [Act.put, List.setIfInBounds_toArray, List.set_cons_zero, List.set_cons_succ]
  refine wpAnyH_take (i := 5) (v := ?_) (by rw [List.getElem?_toArray]; rfl) (by kernel_rfl) (by kernel_rfl) (by kernel_rfl) (by exact fun _ _ _ h => h) (Or.inl ⟨by rfl, ?_⟩) h0 ?_
  rotate_left
  · intro W hW
    go_simp
    all_goals with_reducible rfl
  try simp only [Act.put, List.setIfInBounds_toArray, List.set_cons_zero, List.set_cons_succ]
  refine wpAnyH_take (i := 6) (v := ?_) (by rw [List.getElem?_toArray]; rfl) (by kernel_rfl) (by kernel_rfl) (by kernel_rfl) (by exact fun _ _ _ h => h) (Or.inl ⟨by rfl, ?_⟩) h0 ?_
  rotate_left
  · intro W hW
    go_simp
    all_goals with_reducible rfl
  try simp only [Act.put, List.setIfInBounds_toArray, List.set_cons_zero, List.set_cons_succ]
  refine wpAnyH_take (i := 7) (v := ?_) (by rw [List.getElem?_toArray]; rfl) (by kernel_rfl) (by kernel_rfl) (by kernel_rfl) (by exact fun _ _ _ h => h) (Or.inl ⟨by rfl, ?_⟩) h0 ?_
  rotate_left
  · intro W hW
    go_simp
    all_goals with_reducible rfl
  try simp only [Act.put, List.setIfInBounds_toArray, List.set_cons_zero, List.set_cons_succ]
  refine wpAnyH_take (i := 8) (v := ?_) (by rw [List.getElem?_toArray]; rfl) (by kernel_rfl) (by kernel_rfl) (by kernel_rfl) (by exact fun _ _ _ h => h) (Or.inl ⟨by rfl, ?_⟩) h0 ?_
  rotate_left
  · intro W hW
    have cc := (Joins.cell_of_block hW 1).trans (rfl : _ = some _)
    go_simp
    all_goals with_reducible rfl
  try simp only [Act.put, List.setIfInBounds_toArray, List.set_cons_zero, List.set_cons_succ]
  refine wpAnyH_take (i := 9) (v := ?_) (by rw [List.getElem?_toArray]; rfl) (by kernel_rfl) (by kernel_rfl) (by kernel_rfl) (by exact fun _ _ _ h => h) (Or.inl ⟨by rfl, ?_⟩) h0 ?_
  rotate_left
  · intro W hW
    go_simp
    all_goals with_reducible rfl
  try simp only [Act.put, List.setIfInBounds_toArray, List.set_cons_zero, List.set_cons_succ]
  refine wpAnyH_take (i := 10) (v := ?_) (by rw [List.getElem?_toArray]; rfl) (by kernel_rfl) (by kernel_rfl) (by kernel_rfl) (by exact fun _ _ _ h => h) (Or.inl ⟨by rfl, ?_⟩) h0 ?_
  rotate_left
  · intro W hW
    go_simp
    all_goals with_reducible rfl
  try simp only [Act.put, List.setIfInBounds_toArray, List.set_cons_zero, List.set_cons_succ]
  refine wpAnyH_take (i := 11) (v := ?_) (by rw [List.getElem?_toArray]; rfl) (by kernel_rfl) (by kernel_rfl) (by kernel_rfl) (by exact fun _ _ _ h => h) (Or.inl ⟨by rfl, ?_⟩) h0 ?_
  rotate_left
  · intro W hW
    go_simp
    all_goals with_reducible rfl
  try simp only [Act.put, List.setIfInBounds_toArray, List.set_cons_zero, List.set_cons_succ]
  refine wpAnyH_take (i := 12) (v := ?_) (by rw [List.getElem?_toArray]; rfl) (by kernel_rfl) (by kernel_rfl) (by kernel_rfl) (by exact fun _ _ _ h => h) (Or.inl ⟨by rfl, ?_⟩) h0 ?_
  rotate_left
  · intro W hW
    go_simp
    all_goals with_reducible rfl
  try simp only [Act.put, List.setIfInBounds_toArray, List.set_cons_zero, List.set_cons_succ]
  refine wpAnyH_take (i := 13) (v := ?_) (by rw [List.getElem?_toArray]; rfl) (by kernel_rfl) (by kernel_rfl) (by kernel_rfl) (by exact fun _ _ _ h => h) (Or.inl ⟨by rfl, ?_⟩) h0 ?_
  rotate_left
  · intro W hW
    go_simp
    all_goals with_reducible rfl
  try simp only [Act.put, List.setIfInBounds_toArray, List.set_cons_zero, List.set_cons_succ]
  refine wpAnyH_take (i := 14) (v := ?_) (by rw [List.getElem?_toArray]; rfl) (by kernel_rfl) (by kernel_rfl) (by kernel_rfl) (by exact fun _ _ _ h => h) (Or.inl ⟨by rfl, ?_⟩) h0 ?_
  rotate_left
  · intro W hW
    have cc := (Joins.cell_of_block hW 1).trans (rfl : _ = some _)
    go_simp
    all_goals with_reducible rfl
  try simp only [Act.put, List.setIfInBounds_toArray, List.set_cons_zero, List.set_cons_succ]
  refine wpAnyH_take (i := 15) (v := ?_) (by rw [List.getElem?_toArray]; rfl) (by kernel_rfl) (by kernel_rfl) (by kernel_rfl) (by exact fun _ _ _ h => h) (Or.inl ⟨by rfl, ?_⟩) h0 ?_
  rotate_left
  · intro W hW
    go_simp
    all_goals with_reducible rfl
  try simp only [Act.put, List.setIfInBounds_toArray, List.set_cons_zero, List.set_cons_succ]
  refine wpAnyH_ready (rs := [0]) (by kernel_rfl) (by simp) ?_
  refine AllReadyH.cons (by rw [List.getElem?_toArray]; rfl) (fun K hK => ?_) AllReadyH.nil
  rw [if_pos (by rfl)]
  have b3 : Below w1.heap.size w1 (w1.alloc (.cells #[] 5)) := (Below.refl _ _).alloc (Nat.le_refl _) _
  have D3 := Lib.hid (D1.out.on b3)
  have B3 := Lib.hid b3
  have E3 := Lib.hid (own_empty w1 5 1)
  have P3 : Hid ((w1.alloc (.cells #[] 5)).heap[p]? = some (.cells #[.slice (some ⟨g, 0, none⟩) xs.length cap, .int .i64 ((pos : Int) + (n : Int)), .int .i64 0] 146 (0, 0))) := Lib.hid (blk_onB2 HP1.out b3)
  have V3 : Hid (Rd (w1.alloc (.cells #[] 5)) (.slice (some ⟨g, pos, none⟩) n (cap - pos)) ((xs.drop pos).take n)) := HRD.out.on b3
  clear b3
  go_wp2_with fail
  refine hK.out _ _ (P3.out) (fun h3 => ?_)
  clear hK K
  try simp only [Act.put, List.setIfInBounds_toArray, List.set_cons_zero, List.set_cons_succ]
  generalize hw3 : (w1.alloc (.cells #[] 5)) = w3 at *
  clear hw3
  refine wpAnyH_ready (rs := [16]) (by kernel_rfl) (by simp) ?_
  refine AllReadyH.cons (by rw [List.getElem?_toArray]; rfl) (fun K hK => ?_) AllReadyH.nil
  rw [if_pos (by rfl)]
  refine wp_append_row _ _ rfl Tryd.underlying64 hi.out hz0.out hz1.out hz2.out rfl (show w3.drew.ownsRow 0 _ 1 (.slice (some ⟨w1.heap.size, 0, none⟩) 0 0) 0 [] from E3.out) ((show Rd w3.drew (.slice (some ⟨g, pos, none⟩) n (cap - pos)) ((xs.drop pos).take n) from V3.out).src (P := Tryd.prog) Tryd.underlying64) (by rw [lT]; unfold maxLen; omega) (by rw [lT]; omega) ?_
  intro q6 k6 w6 own6' grow6' fr6'
  have grow6 : w3.drew.grownBy w6 (Value.slice (some ⟨w1.heap.size, 0, none⟩) 0 0).ownBlock := grow6'
  have own6 : w6.ownsRow 0 5 1 (.slice q6 n k6) n (bc ((xs.drop pos).take n)) := by have := own6'; simp only [lT, Nat.zero_add, List.nil_append] at this; exact this
  have G6 : Hid (Below w1.heap.size w1 w6) := B3.out.drew.grown grow6 B3.out.drew.size (fun j hj => by simp [Value.ownBlock] at hj; omega)
  have D6 := Lib.hid (D1.out.on G6.out)
  have P6 : Hid (w6.heap[p]? = some (.cells #[.slice (some ⟨g, 0, none⟩) xs.length cap, .int .i64 ((pos : Int) + (n : Int)), .int .i64 0] 146 (0, 0))) := Lib.hid (blk_onB2 HP1.out G6.out)
  have R6 := Lib.hid (rd_of_row own6)
  have F6 : Hid (∀ a, q6 = some a → w1.heap.size ≤ a.block) := fun a ha => by
    subst ha
    rcases fr6' with e | e
    · have e' : (Value.slice (some a) (0 + ((xs.drop pos).take n).length) k6).ownBlock = (Value.slice (some ⟨w1.heap.size, 0, none⟩) 0 0).ownBlock := e
      simp [Value.ownBlock] at e'; omega
    · have e' : (Value.slice (some a) (0 + ((xs.drop pos).take n).length) k6).ownBlock = some w3.drew.heap.size := e
      have := B3.out.drew.size
      simp [Value.ownBlock] at e' this; omega
  simp only [lT, Nat.zero_add]
  clear own6' grow6' fr6' own6 grow6
  refine hK.out _ _ (P6.out) (fun h6 => ?_)
  clear hK K
  try simp only [Act.put, List.setIfInBounds_toArray, List.set_cons_zero, List.set_cons_succ]
  refine wpAnyH_take (i := 17) (v := ?_) (by rw [List.getElem?_toArray]; rfl) (by kernel_rfl) (by kernel_rfl) (by kernel_rfl) (by exact fun _ _ _ h => h) (Or.inl ⟨by rfl, ?_⟩) h6 ?_
  rotate_left
  · intro W hW
    go_simp
    all_goals with_reducible rfl
  try simp only [Act.put, List.setIfInBounds_toArray, List.set_cons_zero, List.set_cons_succ]
  refine wpAnyH_done (by kernel_rfl) ?_ _
  go_wp2_with fail
  go_ret
  exact ⟨q6, k6, rfl, R6.out, D6.out, C1.out.trans (Chg.below G6.out (Nat.le_refl _) [p]) (fun x hx _ => hx), fun a ha => Nat.le_trans C1.out.size (F6.out a ha)⟩
end Go.Proofs.YtjgfjmkfcippcaaDoor
