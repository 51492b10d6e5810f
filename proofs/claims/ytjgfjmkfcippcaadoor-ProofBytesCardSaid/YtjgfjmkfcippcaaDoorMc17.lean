/-
  What the program reads of bytes that tell no steps.; What must have been read of bytes that tell steps.
-/
import Derived.Test.YtjgfjmkfcippcaaDoorMc15
import Derived.Test.YtjgfjmkfcippcaaDoorMc16
namespace Go.Proofs.YtjgfjmkfcippcaaDoor
set_option maxRecDepth 100000
open Go.RowKit

theorem be8_num {ys : List Int} (h : Bytes ys) (hl : ys.length = 8) : be8 (num ys) = ys := by
  rcases ys with _ | ⟨a, _ | ⟨b, _ | ⟨c, _ | ⟨d, _ | ⟨e, _ | ⟨f, _ | ⟨g, _ | ⟨k, _ | _⟩⟩⟩⟩⟩⟩⟩⟩ <;> simp at hl
  have ha := h a (by simp)
  have hb := h b (by simp)
  have hc := h c (by simp)
  have hd := h d (by simp)
  have he := h e (by simp)
  have hf := h f (by simp)
  have hg := h g (by simp)
  have hk := h k (by simp)
  clear h hl
  have e1 : num [a, b, c, d, e, f, g, k] = ((((((a * 256 + b) * 256 + c) * 256 + d) * 256 + e) * 256 + f) * 256 + g) * 256 + k := by simp [num]
  rw [e1]
  unfold be8
  congr 1
  · omega
  congr 1
  · omega
  congr 1
  · omega
  congr 1
  · omega
  congr 1
  · omega
  congr 1
  · omega
  congr 1
  · omega
  congr 1
  omega
/-- What bytes tell. -/
structure Told6 (xs : List Int) (L : List Sp) : Prop where
  ok : SpOk L
  right : ∀ j, j < L.length → okS (L.getD j sp0).mask (L.getD j sp0).sides = true
  most : L.length ≤ 64
  short : xs.length ≤ 65536
  eq : xs = stsB L L.length
/-- What was read so far. -/
def GD (xs : List Int) (n : Nat) (L : List Sp) (T : List Int) (pos : Nat) (f : Bool) : Prop := f = false → pos ≤ xs.length ∧ xs.take pos = be8 n ++ ((L.map stB).flatten ++ T)
theorem GD.step {xs : List Int} {n : Nat} {L : List Sp} {T F : List Int} {pos k : Nat} {f f' : Bool} (h : GD xs n L T pos f) (hf : f' = false → f = false ∧ pos + k ≤ xs.length ∧ (xs.drop pos).take k = F) : GD xs n L (T ++ F) (pos + k) f' := fun e => by
  obtain ⟨e1, e2, e3⟩ := hf e
  obtain ⟨_, h2⟩ := h e1
  refine ⟨e2, ?_⟩
  rw [List.take_add, h2, e3]
  simp
theorem GD.count {xs : List Int} {n z : Nat} {L : List Sp} {T : List Int} {pos : Nat} {f f' : Bool} (hx : Bytes xs) (h : GD xs n L T pos f) (hf : f' = false → f = false ∧ pos + 8 ≤ xs.length ∧ num ((xs.drop pos).take 8) = z) : GD xs n L (T ++ be8 z) (pos + 8) f' := h.step fun e => by
  obtain ⟨e1, e2, e3⟩ := hf e
  refine ⟨e1, e2, ?_⟩
  rw [← e3, be8_num (fun x hx' => hx x (List.mem_of_mem_drop (List.mem_of_mem_take hx'))) (by simp; omega)]
theorem GD.first {xs : List Int} {z : Nat} {f' : Bool} (hx : Bytes xs) (hf : f' = false → false = false ∧ 0 + 8 ≤ xs.length ∧ num ((xs.drop 0).take 8) = z) : GD xs z [] [] 8 f' := fun e => by
  obtain ⟨_, e2, e3⟩ := hf e
  refine ⟨by omega, ?_⟩
  have : be8 (num ((xs.drop 0).take 8)) = (xs.drop 0).take 8 := be8_num (fun x hx' => hx x (List.mem_of_mem_drop (List.mem_of_mem_take hx'))) (by simp; omega)
  rw [e3, List.drop_zero] at this
  simp [this]
theorem GD.row {xs : List Int} {n pos : Nat} {L : List Sp} {s : Sp} {f : Bool} (h : GD xs n L (s.key ++ s.old ++ s.mask ++ be8 s.sides.length ++ s.sides.flatten) pos f) : GD xs n (L ++ [s]) [] pos f := fun e => by
  obtain ⟨h1, h2⟩ := h e
  refine ⟨h1, ?_⟩
  rw [h2]
  simp [stB]
theorem GD.told {xs : List Int} {L : List Sp} (h : GD xs L.length L [] xs.length false) (ok : SpOk L) (hr : ∀ j, j < L.length → okS (L.getD j sp0).mask (L.getD j sp0).sides = true) (hm : L.length ≤ 64) (hx : xs.length ≤ 65536) : Told6 xs L :=
  ⟨ok, hr, hm, hx, by have := (h rfl).2; rw [List.take_length] at this; rw [this]; simp [stsB]⟩

section
variable {w w' : World} {p : Nat} {v : Value} {xs : List Int} {pos : Nat} {f : Bool}
theorem RSt.blk (h : RSt w p v xs pos f) : ∃ cs, w.heap[p]? = some (.cells cs 140 (0, 0)) := by
  cases f with
  | false => exact ⟨_, (h.ok rfl).blk⟩
  | true => obtain ⟨_, _, _, _, e⟩ := h.bad rfl; exact ⟨_, e⟩
theorem RSt.chg2 (h : RSt w p v xs pos f) {K : List Nat} (hc : Chg w w' K) (hp : p ∉ K) (hv : f = false → w.ownsRow 0 5 1 v xs.length (bc xs) → ∀ g, v.ownBlock = some g → g ∉ K) : RSt w' p v xs pos f := by
  refine ⟨fun e => (h.ok e).chg hc hp (hv e (h.ok e).own), fun e => ?_, by have := hc.size; have := h.lt; omega⟩
  have := h.bad e
  unfold RrF at this ⊢
  rw [hc.block p h.lt hp]; exact this
end
section
variable {w W W' : World} {g m i p pos : Nat} {L : List Sp} {Q : Nat → Option Addr × Nat} {cur : List Value} {v1 : Value} {xs : List Int} {f : Bool}
theorem GbS.call (h : GbS w W g m i L Q cur) (hV : RSt W p v1 xs pos f) (hc : Chg W W' [p]) (hp : w.heap.size ≤ p) (hg : g ≠ p) : GbS w W' g m i L Q cur := h.chg hc (fun k hk => by simp at hk; omega) (by simpa using hg) (fun j hj k hk hm => by
    obtain rfl : k = p := by simpa using hm
    obtain ⟨_, e⟩ := hV.blk
    exact h.sides hj e (by decide) hk)
theorem GbS.ext (h : GbS w W g m L.length L Q cur) {s : Sp} (ok : s.ok) : GbS w W g m L.length (L ++ [s]) Q cur := by
  have e : ∀ j, j < L.length → (L ++ [s]).getD j sp0 = L.getD j sp0 := fun j hj => by simp [List.getD, List.getElem?_append_left hj]
  refine ⟨?_, fun j hj => ?_, h.hg, h.below, by simp, fun x hx => ?_⟩
  · rw [rowsN_cong L.length (g := spF L Q) (fun j hj => by unfold spF; rw [e j hj])]
    exact h.blk
  · rw [e j hj]; exact h.each j hj
  · rcases List.mem_append.1 hx with hx | hx
    · exact h.ok x hx
    · obtain rfl : x = s := by simpa using hx
      exact ok
end
/-- Where Get's inner loop stands. -/
structure GjS (w W : World) (g m i : Nat) (L : List Sp) (Q : Nat → Option Addr × Nat) (s : Sp) (p : Nat) (v1 : Value) (xs : List Int) (pos : Nat) (f : Bool) (qa : Option Addr) (ca : Nat) (acc : List (List Int)) : Prop where
  gb : GbS w W g m i L Q (spRow s (.slice qa acc.length ca))
  hs : HsS w W (.slice qa acc.length ca) acc
  rd : RSt W p v1 xs pos f
  dis : ∀ j, j < i → ∀ k, (Value.slice (Q j).1 (L.getD j sp0).sides.length (Q j).2).ownBlock = some k → (Value.slice qa acc.length ca).ownBlock ≠ some k
section
variable {w W W' : World} {g m i p pos ca : Nat} {L : List Sp} {Q : Nat → Option Addr × Nat} {s : Sp} {v1 : Value} {xs : List Int} {qa : Option Addr} {acc : List (List Int)} {f : Bool}
theorem GjS.on (h : GjS w W g m i L Q s p v1 xs pos f qa ca acc) (hb : Below W.heap.size W W') : GjS w W' g m i L Q s p v1 xs pos f qa ca acc := ⟨h.gb.on hb, h.hs.on hb, h.rd.on hb, h.dis⟩
theorem GjS.hash {pos' : Nat} {f' : Bool} (h : GjS w W g m i L Q s p v1 xs pos f qa ca acc) (hc : Chg W W' [p]) (hp : w.heap.size ≤ p) (hg : g ≠ p) (hV : RSt W' p v1 xs pos' f') : GjS w W' g m i L Q s p v1 xs pos' f' qa ca acc := by
  have G := h.gb.call h.rd hc hp hg
  refine ⟨G, ⟨own_keep h.hs.own (fun k hk => hc.block k (own_lt h.hs.own hk) (fun hm => ?_)), h.hs.ok, h.hs.fresh, G.below⟩, hV, h.dis⟩
  obtain rfl : k = p := by simpa using hm
  obtain ⟨_, e⟩ := h.rd.blk
  exact own_ne h.hs.own e (by decide) hk
theorem GjS.side (h : GjS w W g m i L Q s p v1 xs pos f qa ca acc) (ok : s.ok) : W.cell? ⟨g, i * 97 + 96, none⟩ = some (.slice qa acc.length ca) :=
  h.gb.cell (by simp [spRow, pfRow, hc_len, ok.key, ok.old, ok.mask])
theorem GjS.push {w8 : World} {F : List Int} {q8 : Option Addr} {k8 : Nat} (h : GjS w W g m i L Q s p v1 xs pos f qa ca acc) (ok : s.ok) (hgp : g ≠ p) (hF : F.length = 32) (bF : Bytes F)
    (own : w8.ownsRow 0 23 32 (.slice q8 (acc.length + 1) k8) (acc.length + 1) (hcs acc ++ hcs [F])) (grow : W.grownBy w8 (Value.slice qa acc.length ca).ownBlock) (fr : (Value.slice q8 (acc.length + 1) k8).ownBlock = (Value.slice qa acc.length ca).ownBlock ∨ (Value.slice q8 (acc.length + 1) k8).ownBlock = some W.heap.size) :
    w8.cell? ⟨g, i * 97 + 96, none⟩ = some (.slice qa acc.length ca) ∧ w8.frozen? ⟨g, i * 97 + 96, none⟩ = false ∧ GjS w (w8.setCell ⟨g, i * 97 + 96, none⟩ (.slice q8 (acc.length + 1) k8)) g m i L Q s p v1 xs pos f q8 k8 (acc ++ [F]) := by
  have c8 : Chg W w8 (Value.slice qa acc.length ca).ownBlock.toList := Chg.grown grow (fun g hg => by simp [hg])
  have hS := h.hs.grow (HsOk.one hF bF) (m := 1) rfl own grow fr
  have G8 := h.gb.chg c8 (fun k hk => h.hs.fresh k (by simpa using hk)) (fun hm => own_ne h.hs.own h.gb.blk (by decide) (by simpa using hm)) (fun j hj k hk hm => h.dis j hj k hk (by simpa using hm))
  have V8 := h.rd.chg2 c8 (fun hm => by
    obtain ⟨_, e⟩ := h.rd.blk
    exact own_ne h.hs.own e (by decide) (by simpa using hm)) (fun _ ho k hk hm => own_two ho h.hs.own (by decide) hk (by simpa using hm))
  refine ⟨G8.cell (by simp [spRow, pfRow, hc_len, ok.key, ok.old, ok.mask]), Joins.unfrozen_of_block G8.blk _, ?_⟩
  have e1 : spRow s (.slice qa acc.length ca) = (hc s.key ++ (hc s.old ++ hc s.mask)) ++ ([.slice qa acc.length ca] ++ []) := by simp [spRow, pfRow]
  rw [e1] at G8
  have G9 := GbS.put (h := G8) (vs := [.slice q8 (acc.length + 1) k8]) rfl (o := i * 97 + 96) (by simp [hc_len, ok.key, ok.old, ok.mask])
  have e2 : (hc s.key ++ (hc s.old ++ hc s.mask)) ++ ([.slice q8 (acc.length + 1) k8] ++ []) = spRow s (.slice q8 (acc ++ [F]).length k8) := by simp [spRow, pfRow]
  rw [e2] at G9
  have cs : Chg w8 (w8.setCell ⟨g, i * 97 + 96, none⟩ (.slice q8 (acc.length + 1) k8)) [g] := (Chg.refl w8 [g]).setCell (p := ⟨g, _, none⟩) (.inl (by simp)) _
  have hS2 : HsS w (w8.setCell ⟨g, i * 97 + 96, none⟩ (.slice q8 (acc.length + 1) k8)) (.slice q8 (acc.length + 1) k8) (acc ++ [F]) := by
    refine ⟨own_keep hS.own (fun k hk => cs.block k (own_lt hS.own hk) (fun hm => ?_)), hS.ok, hS.fresh, G9.below⟩
    obtain rfl : k = g := by simpa using hm
    exact own_ne hS.own G8.blk (by decide) hk
  refine ⟨G9, by simpa using hS2, V8.chg2 cs (by simp; omega) (fun _ ho k hk hm => by
    obtain rfl : k = g := by simpa using hm
    exact own_ne ho G8.blk (by decide) hk), fun j hj k hk => ?_⟩
  have hd := h.dis j hj k hk
  have hk2 := own_lt (h.gb.each j hj).own hk
  simp only [List.length_append, List.length_singleton]
  rcases fr with e | e
  · rw [e]; exact hd
  · rw [e]; simp; omega
end

set_option maxHeartbeats 16000000 in
theorem Get6_not {w : World} {vb : Value} {xs : List Int} (hr : Rd w vb xs) (hbx : Bytes xs) (hxl : xs.length ≤ 140737488355328) (hno : ∀ L, ¬ Told6 xs L) :
    Calls Tryd.prog 39 #[vb] w fun r w' => r = .returned (.tuple #[.slice none 0 0, .int .i64 21]) ∧ Below w.heap.size w w' := by
  obtain ⟨i0, hi, hz0, hz1, hz2⟩ := info_parts Tryd.infoSt
  replace hi := Lib.hid hi
  replace hz0 := Lib.hid hz0
  replace hz1 := Lib.hid hz1
  replace hz2 := Lib.hid hz2
  obtain ⟨iH, hiH, hy0, hy1, hy2⟩ := info_parts Tryd.infoHs
  replace hiH := Lib.hid hiH
  replace hy0 := Lib.hid hy0
  replace hy1 := Lib.hid hy1
  replace hy2 := Lib.hid hy2
  obtain ⟨qv, cv, rfl⟩ := hr.len
  have BX := Lib.hid hbx
  have NO := Lib.hid hno
  have KN := Lib.hid (NewReader_any hr hxl)
  clear hr hno hbx
  go_enter Tryd.func39, Tryd.ntmps39
  by_cases hx : xs.length ≤ 65536
  rotate_left
  · go_wp2_with fail
    refine bodyPost_ret (v := .tuple #[.slice none 0 0, .int .i64 21]) (by simp [results, Tryd.results39, go_sem]) rfl ⟨rfl, Below.refl _ _⟩
  clear hxl
  go_wp2_with fail
  refine KN.out.mono ?_
  rintro e w1 ⟨p, v1, rfl, hV, hp, hb1, hv1⟩
  have V1 := Lib.hid (RSt.mk0 hV)
  have B1 := Lib.hid hb1
  clear hV hb1 hv1 KN
  go_wp2_with fail
  refine (Count_st (most := 64) V1.out BX.out (by omega)).mono ?_
  rintro e w2 ⟨n, f, rfl, hn, hV2, hc2, hd2, -⟩
  have D2 := Lib.hid (GD.first BX.out hd2)
  have B2 := Lib.hid (B1.out.trans (hc2.toBelow B1.out.size (fun k hk => by simp at hk; omega)))
  have V2 := Lib.hid hV2
  have hpl := hV2.lt
  clear hV2 hc2 V1 B1 hd2
  go_wp2_with (refine wpList_make_full _ rfl _ _ _ rfl 0 _ _ _ _ Tryd.underlying58 hi.out hz0.out hz1.out _ _ _ _ n rfl rfl rfl rfl ?b1 ?b2 ?b3 ?_)
  case b1 => rw [hz2.out]; omega
  case b2 => unfold maxLen; omega
  case b3 => omega
  intro w3 own3 grow3
  have b3 : Below w2.heap.size w2 w3 := (Below.refl _ _).grown grow3 (Nat.le_refl _) (by intro k hk; simp at hk)
  have G3 := Lib.hid ((GbS.made (L := []) (fun _ => (none, 0)) (fun _ h => by simp at h) own3 grow3).base B2.out)
  have V3 := Lib.hid (V2.out.on b3)
  have hpg : p < w2.heap.size := hpl
  obtain ⟨g, hg⟩ : ∃ g, w2.heap.size = g := ⟨_, rfl⟩
  rw [hg] at G3 hpg ⊢
  clear own3 grow3 b3 V2 B2 hpl hg
  go_wp2_with fail
  go_loopw [18] (fun iv wr => ∃ (i pos : Nat) (Q : Nat → Option Addr × Nat) (L : List Sp) (f : Bool), iv = .int .i64 (i : Int) ∧ i ≤ n ∧ Hid (i = L.length) ∧ Hid (GbS w wr g (n - i) i L Q []) ∧ Hid (RSt wr p v1 xs pos f) ∧ Hid (GD xs n L [] pos f) ∧ Hid (∀ j, j < L.length → okS (L.getD j sp0).mask (L.getD j sp0).sides = true)) (fun iv _ => n - (intOf iv).toNat)
  case atStart => exact ⟨0, _, _, [], _, rfl, by omega, Lib.hid rfl, G3, V3, D2, Lib.hid (fun j hj => by simp at hj)⟩
  case round =>
    clear G3 V3 D2
    obtain ⟨i, pos, Q, L, f, rfl, hil, hLi, hG, hV, hD, hRR⟩ := hrel
    by_cases hlt : i < n
    · have G1 : Hid (GbS w wr g (n - (i + 1)) i L Q st0) := by
        have := hG.out
        rw [show n - i = (n - (i + 1)) + 1 by omega] at this
        exact this.begin
      clear hG
      go_wp2_with fail
      refine (Hash_st hV.out BX.out).mono ?_
      rintro e w4 ⟨F1, f4, rfl, l1, b1, hV4, hc4, hd4, -⟩
      have V4 := Lib.hid hV4
      have D4 := Lib.hid (hD.out.step hd4)
      have BK := Lib.hid b1
      have G4 := Lib.hid (G1.out.call hV.out hc4 (by omega) (by omega))
      clear hV4 hc4 hV G1 hd4 hD b1
      go_wp2_with fail
      refine (Hash_st V4.out BX.out).mono ?_
      rintro e w5 ⟨F2, f5, rfl, l2, b2, hV5, hc5, hd5, -⟩
      have V5 := Lib.hid hV5
      have D5 := Lib.hid (D4.out.step hd5)
      have BO := Lib.hid b2
      have G5 := Lib.hid (G4.out.call V4.out hc5 (by omega) (by omega))
      clear hV5 hc5 V4 G4 hd5 D4 b2
      go_wp2_with fail
      refine (Hash_st V5.out BX.out).mono ?_
      rintro e w6 ⟨F3, f6, rfl, l3, b3, hV6, hc6, hd6, -⟩
      have V6 := Lib.hid hV6
      have D6 := Lib.hid (D5.out.step hd6)
      have G6 := Lib.hid (G5.out.call V5.out hc6 (by omega) (by omega))
      clear hV6 hc6 V5 G5 hd6 D5
      obtain ⟨s, rfl, rfl, rfl, oks⟩ : ∃ s : Sp, s.key = F1 ∧ s.old = F2 ∧ s.mask = F3 ∧ s.ok := ⟨⟨F1, F2, F3, []⟩, rfl, rfl, rfl, ⟨l1, l2, l3, BK.out, BO.out, b3, HsOk.nil, by simp⟩⟩
      have OKS := Lib.hid oks
      have lk := oks.key
      have lo := oks.old
      have lm := oks.mask
      have hlk := hc_len s.key
      have hlo := hc_len s.old
      have hlm := hc_len s.mask
      clear oks BK BO b3 l1 l2 l3
      have G7 : Hid (GbS w (w6.setCells g (i * 97) (hc s.key)) g (n - (i + 1)) i L Q ([] ++ (hc s.key ++ (hc zero32 ++ pfRow zero32 (.slice none 0 0))))) := Lib.hid (GbS.put (a := []) (mid := hc zero32) (h := G6.out) (by rw [hlk, lk]; rfl) rfl)
      have G8 : Hid (GbS w ((w6.setCells g (i * 97) (hc s.key)).setCells g (i * 97 + 32) (hc s.old)) g (n - (i + 1)) i L Q (hc s.key ++ (hc s.old ++ pfRow zero32 (.slice none 0 0)))) := Lib.hid (GbS.put (a := hc s.key) (mid := hc zero32) (h := G7.out) (by rw [hlo, lo]; rfl) (by rw [hlk, lk]))
      have G8' : Hid (GbS w ((w6.setCells g (i * 97) (hc s.key)).setCells g (i * 97 + 32) (hc s.old)) g (n - (i + 1)) i L Q ((hc s.key ++ hc s.old) ++ (hc zero32 ++ [.slice none 0 0]))) := by
        have := G8.out
        rw [show hc s.key ++ (hc s.old ++ pfRow zero32 (.slice none 0 0)) = (hc s.key ++ hc s.old) ++ (hc zero32 ++ [.slice none 0 0]) by simp [pfRow]] at this
        exact this
      have G9 : Hid (GbS w (((w6.setCells g (i * 97) (hc s.key)).setCells g (i * 97 + 32) (hc s.old)).setCells g (i * 97 + 64) (hc s.mask)) g (n - (i + 1)) i L Q (spRow s (.slice none 0 0))) := by
        have := GbS.put (a := hc s.key ++ hc s.old) (mid := hc zero32) (h := G8'.out) (vs := hc s.mask) (by rw [hlm, lm]; rfl) (o := i * 97 + 64) (by simp [hlk, hlo, lk, lo])
        rw [show (hc s.key ++ hc s.old) ++ (hc s.mask ++ [.slice none 0 0]) = spRow s (.slice none 0 0) by simp [spRow, pfRow]] at this
        exact this
      have t0 := G6.out.there (o := i * 97) (n := 32) (Nat.le_refl _) (by rw [st0_len]; omega)
      have t1 := G7.out.there (o := i * 97 + 32) (n := 32) (by omega) (by simp [hlk, lk, pfRow]; rw [show (hc zero32).length = 32 from rfl]; omega)
      have t2 := G8.out.there (o := i * 97 + 64) (n := 32) (by omega) (by simp [hlk, hlo, lk, lo, pfRow]; rw [show (hc zero32).length = 32 from rfl]; omega)
      have cS : Chg w6 (((w6.setCells g (i * 97) (hc s.key)).setCells g (i * 97 + 32) (hc s.old)).setCells g (i * 97 + 64) (hc s.mask)) [g] := chg_setCells g _ _ (chg_setCells g _ _ (chg_setCells g _ _ (Chg.refl _ _)))
      have V9 := Lib.hid (V6.out.chg2 cS (by simp; omega) (fun _ ho k hk hm => own_ne ho G6.out.blk (by decide) (by obtain rfl : k = g := by simpa using hm
                                                                                                                    exact hk)))
      clear G6 G7 G8 G8' V6 cS
      go_wp2_with fail
      clear t0 t1 t2
      generalize ((w6.setCells g (i * 97) (hc s.key)).setCells g (i * 97 + 32) (hc s.old)).setCells g (i * 97 + 64) (hc s.mask) = w9 at *
      refine (Count_st (most := 256) V9.out BX.out (by omega)).mono ?_
      rintro e w10 ⟨z, f10, rfl, hz, hV10, hc10, hd10, -⟩
      have D10 : Hid (GD xs n L (s.key ++ s.old ++ s.mask ++ be8 (z : Int) ++ ([] : List (List Int)).flatten) (pos + 32 + 32 + 32 + 8) f10) := by
        have := GD.count BX.out D6.out hd10
        show GD _ _ _ _ _ _
        simpa using this
      have I0 : Hid (GjS w w10 g (n - (i + 1)) i L Q s p v1 xs (pos + 32 + 32 + 32 + 8) f10 none 0 []) := by
        have G10 := G9.out.call V9.out hc10 (by omega) (by omega)
        exact ⟨G10, ⟨World.ownsRow_nil w10 0 _ 32, HsOk.nil, by simp [Value.ownBlock], G10.below⟩, hV10, fun j hj k hk => by simp [Value.ownBlock]⟩
      clear hV10 hc10 V9 G9 hd10 D6
      go_wp2_with fail
      go_loopw [42] (fun iv wr => ∃ (j : Nat) (pos : Nat) (f : Bool) (qa : Option Addr) (ca : Nat) (acc : List (List Int)), iv = .int .i64 (j : Int) ∧ j ≤ z ∧ Hid (acc.length = j) ∧ Hid (GjS w wr g (n - (i + 1)) i L Q s p v1 xs pos f qa ca acc) ∧ Hid (GD xs n L (s.key ++ s.old ++ s.mask ++ be8 (z : Int) ++ acc.flatten) pos f)) (fun iv _ => z - (intOf iv).toNat)
      case atStart => exact ⟨0, _, _, none, 0, [], rfl, by omega, Lib.hid rfl, I0, D10⟩
      case round =>
        clear I0 D10
        obtain ⟨j, posj, fj, qa, ca, acc, rfl, hjl, LT, hI, DJ⟩ := hrel
        by_cases hjt : j < z
        · go_wp2_with fail
          refine wp_region_held_drew (S := fun _ => True) (by kernel_rfl) (trivial) (fun h0 => ?_)
          replace hI := Lib.hid (hI.out.on ((Below.refl _ _).drew))
          generalize wr.drew = wr at *
          refine wpAnyH_take (i := 0) (v := ?_) (by rw [List.getElem?_toArray]; rfl) (by kernel_rfl) (by kernel_rfl) (by kernel_rfl) (by exact fun _ _ _ h => h) (Or.inl ⟨by rfl, ?_⟩) h0 ?_
          rotate_left
          · intro W hW
            go_simp
            all_goals with_reducible rfl
          try simp only [Act.put, List.setIfInBounds_toArray, List.set_cons_zero, List.set_cons_succ]
          refine wpAnyH_take (i := 1) (v := ?_) (by rw [List.getElem?_toArray]; rfl) (by kernel_rfl) (by kernel_rfl) (by kernel_rfl) (by exact fun _ _ _ h => h) (Or.inl ⟨by rfl, ?_⟩) h0 ?_
          rotate_left
          · intro W hW
            go_simp
            all_goals with_reducible rfl
          try simp only [Act.put, List.setIfInBounds_toArray, List.set_cons_zero, List.set_cons_succ]
          refine wpAnyH_take (i := 2) (v := ?_) (by rw [List.getElem?_toArray]; rfl) (by kernel_rfl) (by kernel_rfl) (by kernel_rfl) (by exact fun _ _ _ h => h) (Or.inl ⟨by rfl, ?_⟩) h0 ?_
          rotate_left
          · intro W hW
            go_simp
            all_goals with_reducible rfl
          try simp only [Act.put, List.setIfInBounds_toArray, List.set_cons_zero, List.set_cons_succ]
          refine wpAnyH_take (i := 3) (v := ?_) (by rw [List.getElem?_toArray]; rfl) (by kernel_rfl) (by kernel_rfl) (by kernel_rfl) (by exact fun _ _ _ h => h) (Or.inl ⟨by rfl, ?_⟩) h0 ?_
          rotate_left
          · intro W hW
            go_simp
            all_goals with_reducible rfl
          try simp only [Act.put, List.setIfInBounds_toArray, List.set_cons_zero, List.set_cons_succ]
          refine wpAnyH_take (i := 4) (v := ?_) (by rw [List.getElem?_toArray]; rfl) (by kernel_rfl) (by kernel_rfl) (by kernel_rfl) (by exact fun _ _ _ h => h) (Or.inl ⟨by rfl, ?_⟩) h0 ?_
          rotate_left
          · intro W hW
            go_simp
            all_goals with_reducible rfl
          try simp only [Act.put, List.setIfInBounds_toArray, List.set_cons_zero, List.set_cons_succ]
          refine wpAnyH_take (i := 6) (v := ?_) (by rw [List.getElem?_toArray]; rfl) (by kernel_rfl) (by kernel_rfl) (by kernel_rfl) (by exact fun _ _ _ h => h) (Or.inl ⟨by rfl, ?_⟩) h0 ?_
          rotate_left
          · intro W hW
            go_simp
            all_goals with_reducible rfl
          try simp only [Act.put, List.setIfInBounds_toArray, List.set_cons_zero, List.set_cons_succ]
          refine wpAnyH_ready (rs := [5, 7]) (by kernel_rfl) (by simp) ?_
          refine AllReadyH.cons (by rw [List.getElem?_toArray]; rfl) (fun K hK => ?_) (AllReadyH.cons (by rw [List.getElem?_toArray]; rfl) (fun K hK => ?_) AllReadyH.nil)
          · rw [if_pos (by rfl)]
            have ld1 := hI.out.side OKS.out
            rw [LT.out] at ld1
            go_wp2_with fail
            clear ld1
            refine hK.out _ _ trivial (fun h1x => ?_)
            clear hK K
            try simp only [Act.put, List.setIfInBounds_toArray, List.set_cons_zero, List.set_cons_succ]
            refine wpAnyH_ready (rs := [7]) (by kernel_rfl) (by simp) ?_
            refine AllReadyH.cons (by rw [List.getElem?_toArray]; rfl) (fun K hK => ?_) AllReadyH.nil
            rw [if_pos (by rfl)]
            go_wp2_with fail
            refine (Hash_st hI.out.rd BX.out).mono ?_
            rintro e w2x ⟨F, f7, rfl, lF, bF0, hv2, hc2, hd2, -⟩
            have bF := Lib.hid bF0
            have hlF := hc_len F
            have D7 : Hid (GD xs n L (s.key ++ s.old ++ s.mask ++ be8 (z : Int) ++ (acc ++ [F]).flatten) (posj + 32) f7) := by
              have := DJ.out.step hd2
              show GD _ _ _ _ _ _
              simpa using this
            have LT2 : Hid ((acc ++ [F]).length = j + 1) := by
              have := LT.out
              show _ = _
              simp [this]
            have I2 := Lib.hid (hI.out.hash hc2 (by omega) (by omega) hv2)
            clear hv2 hc2 hd2 bF0 DJ
            go_wp2_with fail
            refine hK.out _ _ trivial (fun h2x => ?_)
            clear hK K
            try simp only [Act.put, List.setIfInBounds_toArray, List.set_cons_zero, List.set_cons_succ]
            refine wpAnyH_ready (rs := [8]) (by kernel_rfl) (by simp) ?_
            refine AllReadyH.cons (by rw [List.getElem?_toArray]; rfl) (fun K hK => ?_) AllReadyH.nil
            rw [if_pos (by rfl)]
            have hsl3 := Tryd.run_h1 w2x F lF
            have I3 := Lib.hid (I2.out.on ((Below.refl _ _).alloc (Nat.le_refl _) (.cells (hc F).toArray 23)))
            have R3 := Lib.hid (one_hs (w := w2x) lF bF.out)
            go_wp2_with fail
            clear hsl3
            refine hK.out _ _ trivial (fun h3x => ?_)
            clear hK K
            try simp only [Act.put, List.setIfInBounds_toArray, List.set_cons_zero, List.set_cons_succ]
            generalize w2x.alloc (.cells (hc F).toArray 23) = w3x at *
            refine wpAnyH_ready (rs := [9]) (by kernel_rfl) (by simp) ?_
            refine AllReadyH.cons (by rw [List.getElem?_toArray]; rfl) (fun K hK => ?_) AllReadyH.nil
            rw [if_pos (by rfl)]
            have OW4 : w3x.ownsRow 0 23 32 (.slice qa j ca) j (hcs acc) := by have := I3.out.hs.own; rw [LT.out] at this; exact this
            refine wp_append_row _ _ rfl Tryd.underlying28 hiH.out hy0.out hy1.out hy2.out zero_cells OW4 (R3.out.src (P := Tryd.prog) (HsOk.one lF bF.out) Tryd.underlying28) (by unfold maxLen; (try simp only [List.length_singleton]); omega) (by (try simp only [List.length_singleton]); omega) ?_
            intro q8 k8 w8 own8' grow8' fr8'
            have P8 := I3.out.push (F := F) (q8 := q8) (k8 := k8) OKS.out (by omega) lF bF.out (by rw [LT.out]; exact own8') (by rw [LT.out]; exact grow8') (by rw [LT.out]; exact fr8')
            rw [LT.out] at P8
            have z8 := P8.1
            have f8 := P8.2.1
            have I4 : Hid (GjS w (w8.setCell ⟨g, i * 97 + 96, none⟩ (.slice q8 (j + 1) k8)) g (n - (i + 1)) i L Q s p v1 xs (posj + 32) f7 q8 k8 (acc ++ [F])) := P8.2.2
            clear own8' grow8' fr8' OW4 P8
            refine hK.out _ _ trivial (fun h4x => ?_)
            clear hK K
            try simp only [Act.put, List.setIfInBounds_toArray, List.set_cons_zero, List.set_cons_succ]
            refine wpAnyH_take (i := 10) (v := ?_) (by rw [List.getElem?_toArray]; rfl) (by kernel_rfl) (by kernel_rfl) (by kernel_rfl) (by exact fun _ _ _ h => h) (Or.inl ⟨by rfl, ?_⟩) h4x ?_
            rotate_left
            · intro W hW
              go_simp
              all_goals with_reducible rfl
            try simp only [Act.put, List.setIfInBounds_toArray, List.set_cons_zero, List.set_cons_succ]
            refine wpAnyH_take (i := 11) (v := ?_) (by rw [List.getElem?_toArray]; rfl) (by kernel_rfl) (by kernel_rfl) (by kernel_rfl) (by exact fun _ _ _ h => h) (Or.inl ⟨by rfl, ?_⟩) h4x ?_
            rotate_left
            · intro W hW
              go_simp
              all_goals with_reducible rfl
            try simp only [Act.put, List.setIfInBounds_toArray, List.set_cons_zero, List.set_cons_succ]
            refine wpAnyH_take (i := 12) (v := ?_) (by rw [List.getElem?_toArray]; rfl) (by kernel_rfl) (by kernel_rfl) (by kernel_rfl) (by exact fun _ _ _ h => h) (Or.inl ⟨by rfl, ?_⟩) h4x ?_
            rotate_left
            · intro W hW
              go_simp
              all_goals with_reducible rfl
            try simp only [Act.put, List.setIfInBounds_toArray, List.set_cons_zero, List.set_cons_succ]
            refine wpAnyH_ready (rs := [13]) (by kernel_rfl) (by simp) ?_
            refine AllReadyH.cons (by rw [List.getElem?_toArray]; rfl) (fun K hK => ?_) AllReadyH.nil
            rw [if_pos (by rfl)]
            go_wp2_with fail
            refine hK.out _ _ trivial (fun h5x => ?_)
            clear hK K
            try simp only [Act.put, List.setIfInBounds_toArray, List.set_cons_zero, List.set_cons_succ]
            refine wpAnyH_done (by kernel_rfl) ?_ _
            have I9 := I4
            clear h5x
            go_wp2_with fail
            go_roundw
            case rel => exact ⟨j + 1, _, _, q8, k8, _, by go_num, by omega, LT2, I9, D7⟩
            case measure => simp [intOf]; omega
          · rw [if_pos (by rfl)]
            go_wp2_with fail
            refine (Hash_st hI.out.rd BX.out).mono ?_
            rintro e w6x ⟨F, f7, rfl, lF, bF0, hv6, hc6, hd6, -⟩
            have bF := Lib.hid bF0
            have hlF := hc_len F
            have D7 : Hid (GD xs n L (s.key ++ s.old ++ s.mask ++ be8 (z : Int) ++ (acc ++ [F]).flatten) (posj + 32) f7) := by
              have := DJ.out.step hd6
              show GD _ _ _ _ _ _
              simpa using this
            have LT2 : Hid ((acc ++ [F]).length = j + 1) := by
              have := LT.out
              show _ = _
              simp [this]
            have I6 := Lib.hid (hI.out.hash hc6 (by omega) (by omega) hv6)
            clear hv6 hc6 hd6 bF0 DJ
            go_wp2_with fail
            refine hK.out _ _ trivial (fun h6x => ?_)
            clear hK K
            try simp only [Act.put, List.setIfInBounds_toArray, List.set_cons_zero, List.set_cons_succ]
            refine wpAnyH_ready (rs := [5, 8]) (by kernel_rfl) (by simp) ?_
            refine AllReadyH.cons (by rw [List.getElem?_toArray]; rfl) (fun K hK => ?_) (AllReadyH.cons (by rw [List.getElem?_toArray]; rfl) (fun K hK => ?_) AllReadyH.nil)
            · rw [if_pos (by rfl)]
              have ld7 := I6.out.side OKS.out
              rw [LT.out] at ld7
              go_wp2_with fail
              clear ld7
              refine hK.out _ _ trivial (fun h7x => ?_)
              clear hK K
              try simp only [Act.put, List.setIfInBounds_toArray, List.set_cons_zero, List.set_cons_succ]
              refine wpAnyH_ready (rs := [8]) (by kernel_rfl) (by simp) ?_
              refine AllReadyH.cons (by rw [List.getElem?_toArray]; rfl) (fun K hK => ?_) AllReadyH.nil
              rw [if_pos (by rfl)]
              have hsl8 := Tryd.run_h1 w6x F lF
              have I8 := Lib.hid (I6.out.on ((Below.refl _ _).alloc (Nat.le_refl _) (.cells (hc F).toArray 23)))
              have R8 := Lib.hid (one_hs (w := w6x) lF bF.out)
              go_wp2_with fail
              clear hsl8
              refine hK.out _ _ trivial (fun h8x => ?_)
              clear hK K
              try simp only [Act.put, List.setIfInBounds_toArray, List.set_cons_zero, List.set_cons_succ]
              generalize w6x.alloc (.cells (hc F).toArray 23) = w8x at *
              refine wpAnyH_ready (rs := [9]) (by kernel_rfl) (by simp) ?_
              refine AllReadyH.cons (by rw [List.getElem?_toArray]; rfl) (fun K hK => ?_) AllReadyH.nil
              rw [if_pos (by rfl)]
              have OW9 : w8x.ownsRow 0 23 32 (.slice qa j ca) j (hcs acc) := by have := I8.out.hs.own; rw [LT.out] at this; exact this
              refine wp_append_row _ _ rfl Tryd.underlying28 hiH.out hy0.out hy1.out hy2.out zero_cells OW9 (R8.out.src (P := Tryd.prog) (HsOk.one lF bF.out) Tryd.underlying28) (by unfold maxLen; (try simp only [List.length_singleton]); omega) (by (try simp only [List.length_singleton]); omega) ?_
              intro q8 k8 w8 own8' grow8' fr8'
              have P8 := I8.out.push (F := F) (q8 := q8) (k8 := k8) OKS.out (by omega) lF bF.out (by rw [LT.out]; exact own8') (by rw [LT.out]; exact grow8') (by rw [LT.out]; exact fr8')
              rw [LT.out] at P8
              have z8 := P8.1
              have f8 := P8.2.1
              have I9 : Hid (GjS w (w8.setCell ⟨g, i * 97 + 96, none⟩ (.slice q8 (j + 1) k8)) g (n - (i + 1)) i L Q s p v1 xs (posj + 32) f7 q8 k8 (acc ++ [F])) := P8.2.2
              clear own8' grow8' fr8' OW9 P8
              refine hK.out _ _ trivial (fun h9x => ?_)
              clear hK K
              try simp only [Act.put, List.setIfInBounds_toArray, List.set_cons_zero, List.set_cons_succ]
              refine wpAnyH_take (i := 10) (v := ?_) (by rw [List.getElem?_toArray]; rfl) (by kernel_rfl) (by kernel_rfl) (by kernel_rfl) (by exact fun _ _ _ h => h) (Or.inl ⟨by rfl, ?_⟩) h9x ?_
              rotate_left
              · intro W hW
                go_simp
                all_goals with_reducible rfl
              try simp only [Act.put, List.setIfInBounds_toArray, List.set_cons_zero, List.set_cons_succ]
              refine wpAnyH_take (i := 11) (v := ?_) (by rw [List.getElem?_toArray]; rfl) (by kernel_rfl) (by kernel_rfl) (by kernel_rfl) (by exact fun _ _ _ h => h) (Or.inl ⟨by rfl, ?_⟩) h9x ?_
              rotate_left
              · intro W hW
                go_simp
                all_goals with_reducible rfl
              try simp only [Act.put, List.setIfInBounds_toArray, List.set_cons_zero, List.set_cons_succ]
              refine wpAnyH_take (i := 12) (v := ?_) (by rw [List.getElem?_toArray]; rfl) (by kernel_rfl) (by kernel_rfl) (by kernel_rfl) (by exact fun _ _ _ h => h) (Or.inl ⟨by rfl, ?_⟩) h9x ?_
              rotate_left
              · intro W hW
                go_simp
                all_goals with_reducible rfl
              try simp only [Act.put, List.setIfInBounds_toArray, List.set_cons_zero, List.set_cons_succ]
              refine wpAnyH_ready (rs := [13]) (by kernel_rfl) (by simp) ?_
              refine AllReadyH.cons (by rw [List.getElem?_toArray]; rfl) (fun K hK => ?_) AllReadyH.nil
              rw [if_pos (by rfl)]
              go_wp2_with fail
              refine hK.out _ _ trivial (fun h10x => ?_)
              clear hK K
              try simp only [Act.put, List.setIfInBounds_toArray, List.set_cons_zero, List.set_cons_succ]
              refine wpAnyH_done (by kernel_rfl) ?_ _
              have I9 := I9
              clear h10x
              go_wp2_with fail
              go_roundw
              case rel => exact ⟨j + 1, _, _, q8, k8, _, by go_num, by omega, LT2, I9, D7⟩
              case measure => simp [intOf]; omega
            · rw [if_pos (by rfl)]
              have hsl11 := Tryd.run_h1 w6x F lF
              have I11 := Lib.hid (I6.out.on ((Below.refl _ _).alloc (Nat.le_refl _) (.cells (hc F).toArray 23)))
              have R11 := Lib.hid (one_hs (w := w6x) lF bF.out)
              go_wp2_with fail
              clear hsl11
              refine hK.out _ _ trivial (fun h11x => ?_)
              clear hK K
              try simp only [Act.put, List.setIfInBounds_toArray, List.set_cons_zero, List.set_cons_succ]
              generalize w6x.alloc (.cells (hc F).toArray 23) = w11x at *
              refine wpAnyH_ready (rs := [5]) (by kernel_rfl) (by simp) ?_
              refine AllReadyH.cons (by rw [List.getElem?_toArray]; rfl) (fun K hK => ?_) AllReadyH.nil
              rw [if_pos (by rfl)]
              have ld12 := I11.out.side OKS.out
              rw [LT.out] at ld12
              go_wp2_with fail
              clear ld12
              refine hK.out _ _ trivial (fun h12x => ?_)
              clear hK K
              try simp only [Act.put, List.setIfInBounds_toArray, List.set_cons_zero, List.set_cons_succ]
              refine wpAnyH_ready (rs := [9]) (by kernel_rfl) (by simp) ?_
              refine AllReadyH.cons (by rw [List.getElem?_toArray]; rfl) (fun K hK => ?_) AllReadyH.nil
              rw [if_pos (by rfl)]
              have OW13 : w11x.ownsRow 0 23 32 (.slice qa j ca) j (hcs acc) := by have := I11.out.hs.own; rw [LT.out] at this; exact this
              refine wp_append_row _ _ rfl Tryd.underlying28 hiH.out hy0.out hy1.out hy2.out zero_cells OW13 (R11.out.src (P := Tryd.prog) (HsOk.one lF bF.out) Tryd.underlying28) (by unfold maxLen; (try simp only [List.length_singleton]); omega) (by (try simp only [List.length_singleton]); omega) ?_
              intro q8 k8 w8 own8' grow8' fr8'
              have P8 := I11.out.push (F := F) (q8 := q8) (k8 := k8) OKS.out (by omega) lF bF.out (by rw [LT.out]; exact own8') (by rw [LT.out]; exact grow8') (by rw [LT.out]; exact fr8')
              rw [LT.out] at P8
              have z8 := P8.1
              have f8 := P8.2.1
              have I13 : Hid (GjS w (w8.setCell ⟨g, i * 97 + 96, none⟩ (.slice q8 (j + 1) k8)) g (n - (i + 1)) i L Q s p v1 xs (posj + 32) f7 q8 k8 (acc ++ [F])) := P8.2.2
              clear own8' grow8' fr8' OW13 P8
              refine hK.out _ _ trivial (fun h13x => ?_)
              clear hK K
              try simp only [Act.put, List.setIfInBounds_toArray, List.set_cons_zero, List.set_cons_succ]
              refine wpAnyH_take (i := 10) (v := ?_) (by rw [List.getElem?_toArray]; rfl) (by kernel_rfl) (by kernel_rfl) (by kernel_rfl) (by exact fun _ _ _ h => h) (Or.inl ⟨by rfl, ?_⟩) h13x ?_
              rotate_left
              · intro W hW
                go_simp
                all_goals with_reducible rfl
              try simp only [Act.put, List.setIfInBounds_toArray, List.set_cons_zero, List.set_cons_succ]
              refine wpAnyH_take (i := 11) (v := ?_) (by rw [List.getElem?_toArray]; rfl) (by kernel_rfl) (by kernel_rfl) (by kernel_rfl) (by exact fun _ _ _ h => h) (Or.inl ⟨by rfl, ?_⟩) h13x ?_
              rotate_left
              · intro W hW
                go_simp
                all_goals with_reducible rfl
              try simp only [Act.put, List.setIfInBounds_toArray, List.set_cons_zero, List.set_cons_succ]
              refine wpAnyH_take (i := 12) (v := ?_) (by rw [List.getElem?_toArray]; rfl) (by kernel_rfl) (by kernel_rfl) (by kernel_rfl) (by exact fun _ _ _ h => h) (Or.inl ⟨by rfl, ?_⟩) h13x ?_
              rotate_left
              · intro W hW
                go_simp
                all_goals with_reducible rfl
              try simp only [Act.put, List.setIfInBounds_toArray, List.set_cons_zero, List.set_cons_succ]
              refine wpAnyH_ready (rs := [13]) (by kernel_rfl) (by simp) ?_
              refine AllReadyH.cons (by rw [List.getElem?_toArray]; rfl) (fun K hK => ?_) AllReadyH.nil
              rw [if_pos (by rfl)]
              go_wp2_with fail
              refine hK.out _ _ trivial (fun h14x => ?_)
              clear hK K
              try simp only [Act.put, List.setIfInBounds_toArray, List.set_cons_zero, List.set_cons_succ]
              refine wpAnyH_done (by kernel_rfl) ?_ _
              have I9 := I13
              clear h14x
              go_wp2_with fail
              go_roundw
              case rel => exact ⟨j + 1, _, _, q8, k8, _, by go_num, by omega, LT2, I9, D7⟩
              case measure => simp [intOf]; omega
        · obtain rfl : j = z := by omega
          have hja := LT.out
          subst hja
          clear hjt
          have h97 := hI.out.gb.row (spRow_len OKS.out _)
          have cc := sp_pf OKS.out h97
          have hlp := pfRow_len lm (.slice qa acc.length ca)
          clear h97
          go_wp2_with fail
          clear cc
          refine (Right_any (k := ca) lm OKS.out.bm hI.out.hs.rd.2.1 hI.out.hs.ok (by omega)).mono ?_
          rintro e w12 ⟨rfl, hb12⟩
          have I12 := Lib.hid (hI.out.on hb12)
          clear hb12 hI
          cases hk : okS s.mask acc with
          | false =>
            have BE := Lib.hid I12.out.gb.below
            clear I12
            go_wp2_with fail
            refine bodyPost_ret (v := .tuple #[.slice none 0 0, .int .i64 21]) (by simp [results, Tryd.results39, go_sem]) rfl ⟨rfl, BE.out⟩
          | true =>
            have okt : Sp.ok ⟨s.key, s.old, s.mask, acc⟩ := ⟨lk, lo, lm, OKS.out.bk, OKS.out.bo, OKS.out.bm, I12.out.hs.ok, by show acc.length * 32 ≤ _; omega⟩
            have hLi2 := hLi.out
            subst hLi2
            have eL : (L ++ [(⟨s.key, s.old, s.mask, acc⟩ : Sp)]).getD L.length sp0 = ⟨s.key, s.old, s.mask, acc⟩ := by simp [List.getD]
            have GE := I12.out.gb.ext okt
            have HE := I12.out.hs
            have G12 : Hid (GbS w w12 g (n - (L.length + 1)) (L.length + 1) (L ++ [(⟨s.key, s.old, s.mask, acc⟩ : Sp)]) (fun j => if j = L.length then (qa, ca) else Q j) []) := by
              refine GbS.next (q := qa) (k := ca) ?_ (by simp) ?_
              · rw [eL]; exact GE
              · rw [eL]; exact HE
            have D12 := Lib.hid (GD.row (s := ⟨s.key, s.old, s.mask, acc⟩) DJ.out)
            have V12 := Lib.hid I12.out.rd
            have R12 : Hid (∀ j, j < (L ++ [(⟨s.key, s.old, s.mask, acc⟩ : Sp)]).length → okS ((L ++ [(⟨s.key, s.old, s.mask, acc⟩ : Sp)]).getD j sp0).mask ((L ++ [(⟨s.key, s.old, s.mask, acc⟩ : Sp)]).getD j sp0).sides = true) := fun j hj => by
              by_cases e : j = L.length
              · subst e; rw [eL]; exact hk
              · have hj2 : j < L.length := by simp at hj; omega
                have := hRR.out j hj2
                rw [show (L ++ [(⟨s.key, s.old, s.mask, acc⟩ : Sp)]).getD j sp0 = L.getD j sp0 by simp [List.getD, List.getElem?_append_left hj2]]
                exact this
            have LL : Hid (L.length + 1 = (L ++ [(⟨s.key, s.old, s.mask, acc⟩ : Sp)]).length) := by show _ = _; simp
            clear I12 okt eL GE HE DJ hRR hk hLi
            go_wp2_with fail
            go_roundw
            case rel => exact ⟨L.length + 1, _, _, _, _, by go_num, by omega, LL, G12, V12, D12, R12⟩
            case measure => simp [intOf]; omega
    · obtain rfl : i = n := by omega
      have BE := Lib.hid hG.out.below
      have OK9 := Lib.hid hG.out.ok
      clear hG
      go_wp2_with fail
      refine (Done_st hV.out).mono ?_
      rintro e w12 ⟨z, m, rfl, rfl, hz⟩
      have hzn : ¬ z = 0 := fun e => by
        obtain ⟨rfl, rfl⟩ := hz.1 e
        have hL := hLi.out
        subst hL
        exact NO.out L (hD.out.told OK9.out hRR.out hn hx)
      have hzb : (z != 0) = true := by simp [hzn]
      have b12 := below_drewN (Below.refl wr.heap.size wr) m
      have BE2 := Lib.hid (BE.out.trans (b12.mono BE.out.size))
      clear b12 BE hz hV hD hRR OK9
      go_wp2_with fail
      refine bodyPost_ret (v := .tuple #[.slice none 0 0, .int .i64 21]) (by simp [results, Tryd.results39, go_sem]) rfl ⟨rfl, BE2.out⟩
end Go.Proofs.YtjgfjmkfcippcaaDoor
namespace Go.Proofs.YtjgfjmkfcippcaaDoor
set_option maxRecDepth 100000
open Go.RowKit

/-- The bytes of the steps from the i-th on. -/
def stT (L : List Sp) (i : Nat) : List Int := ((L.drop i).map stB).flatten
theorem stT_zero (L : List Sp) : stsB L L.length = be8 L.length ++ stT L 0 := by simp [stsB, stT]
theorem stT_succ {L : List Sp} {i : Nat} (hi : i < L.length) : stT L i = (L.getD i sp0).key ++ ((L.getD i sp0).old ++ ((L.getD i sp0).mask ++ (be8 (L.getD i sp0).sides.length ++ ((L.getD i sp0).sides.flatten ++ stT L (i + 1))))) := by
  have e : L.drop i = L.getD i sp0 :: L.drop (i + 1) := by rw [List.drop_eq_getElem_cons hi]; simp [List.getD, hi]
  unfold stT
  rw [e]
  simp [stB]
theorem stT_end (L : List Sp) : stT L L.length = [] := by simp [stT]
/-- Of bytes that tell steps: nothing was refused, c holds of what was read, X is what is left. -/
def GT (xs : List Int) (n : Nat) (L : List Sp) (pos : Nat) (f : Bool) (c : Sp → Prop) (X : List Sp → Sp → List Int) : Prop :=
  ∀ M, Told6 xs M → f = false ∧ n = M.length ∧ L = M.take L.length ∧ c (M.getD L.length sp0) ∧ xs.drop pos = X M (M.getD L.length sp0)
theorem drop_step {xs A X : List Int} {pos k : Nat} (h : xs.drop pos = A ++ X) (hA : A.length = k) (hk : 0 < k) : pos + k ≤ xs.length ∧ (xs.drop pos).take k = A ∧ xs.drop (pos + k) = X := by
  have hl : (xs.drop pos).length = k + X.length := by rw [h, List.length_append, hA]
  rw [List.length_drop] at hl
  refine ⟨by omega, by rw [h]; exact List.take_left' hA, by rw [← List.drop_drop, h]; exact List.drop_left' hA⟩
theorem GT.step {xs : List Int} {n : Nat} {L : List Sp} {pos k : Nat} {f f' : Bool} {c : Sp → Prop} {X X' : List Sp → Sp → List Int} (A : Sp → List Int) {F : List Int} (h : GT xs n L pos f c X) (hk : 0 < k)
    (hf : f' = false → f = false ∧ pos + k ≤ xs.length ∧ (xs.drop pos).take k = F) (hb : f' = true → f = true ∨ xs.length < pos + k)
    (hX : ∀ M, Told6 xs M → n = M.length → c (M.getD L.length sp0) → X M (M.getD L.length sp0) = A (M.getD L.length sp0) ++ X' M (M.getD L.length sp0) ∧ (A (M.getD L.length sp0)).length = k) :
    GT xs n L (pos + k) f' (fun s => c s ∧ A s = F) X' := fun M hM => by
  obtain ⟨h1, h2, h3, h4, h5⟩ := h M hM
  obtain ⟨x1, x2⟩ := hX M hM h2 h4
  rw [x1] at h5
  obtain ⟨d1, d2, d3⟩ := drop_step h5 x2 hk
  have hff : f' = false := by
    cases f' with
    | false => rfl
    | true =>
      rcases hb rfl with e | e
      · rw [h1] at e; simp at e
      · omega
  obtain ⟨_, _, g3⟩ := hf hff
  exact ⟨hff, h2, h3, ⟨h4, by rw [← d2, g3]⟩, d3⟩
theorem GT.count {xs : List Int} {n : Nat} {L : List Sp} {pos most z : Nat} {f f' : Bool} {c : Sp → Prop} {X X' : List Sp → Sp → List Int} (k : Sp → Nat) (h : GT xs n L pos f c X)
    (hf : f' = false → f = false ∧ pos + 8 ≤ xs.length ∧ num ((xs.drop pos).take 8) = z) (hb : f' = true → f = true ∨ xs.length < pos + 8 ∨ (most : Int) < num ((xs.drop pos).take 8))
    (hX : ∀ M, Told6 xs M → n = M.length → c (M.getD L.length sp0) → X M (M.getD L.length sp0) = be8 (k (M.getD L.length sp0)) ++ X' M (M.getD L.length sp0) ∧ k (M.getD L.length sp0) ≤ most) (hm : most ≤ 1000000) :
    GT xs n L (pos + 8) f' (fun s => c s ∧ k s = z) X' := fun M hM => by
  obtain ⟨h1, h2, h3, h4, h5⟩ := h M hM
  obtain ⟨x1, x2⟩ := hX M hM h2 h4
  rw [x1] at h5
  obtain ⟨d1, d2, d3⟩ := drop_step h5 (be8_len _) (by omega)
  have hn : num ((xs.drop pos).take 8) = k (M.getD L.length sp0) := by rw [d2, num_be8 (by omega) (by omega)]
  have hff : f' = false := by
    cases f' with
    | false => rfl
    | true =>
      rcases hb rfl with e | e | e
      · rw [h1] at e; simp at e
      · omega
      · rw [hn] at e; omega
  obtain ⟨_, _, g3⟩ := hf hff
  exact ⟨hff, h2, h3, ⟨h4, by rw [hn] at g3; omega⟩, d3⟩
/-- At the start. -/
theorem GT.first {xs : List Int} {z : Nat} {f' : Bool} (hf : f' = false → false = false ∧ 0 + 8 ≤ xs.length ∧ num ((xs.drop 0).take 8) = z) (hb : f' = true → false = true ∨ xs.length < 0 + 8 ∨ ((64 : Nat) : Int) < num ((xs.drop 0).take 8)) :
    GT xs z [] 8 f' (fun _ => True) (fun M _ => stT M 0) := fun M hM => by
  have h5 : xs.drop 0 = be8 M.length ++ stT M 0 := by rw [List.drop_zero, ← stT_zero]; exact hM.eq
  obtain ⟨d1, d2, d3⟩ := drop_step h5 (be8_len _) (by omega)
  have hm := hM.most
  have hn : num ((xs.drop 0).take 8) = M.length := by rw [d2, num_be8 (by omega) (by omega)]
  have hff : f' = false := by
    cases f' with
    | false => rfl
    | true =>
      rcases hb rfl with e | e | e
      · simp at e
      · omega
      · rw [hn] at e; omega
  obtain ⟨_, _, g3⟩ := hf hff
  exact ⟨hff, by rw [hn] at g3; omega, by simp, trivial, by simpa using d3⟩
theorem take_snocSp {M : List Sp} {j : Nat} (hj : j < M.length) : M.take (j + 1) = M.take j ++ [M.getD j sp0] := by
  rw [List.take_add_one]
  simp [List.getD, hj]
/-- A row is read. -/
theorem GT.row {xs : List Int} {n pos : Nat} {L : List Sp} {f : Bool} {c : Sp → Prop} {X : List Sp → Sp → List Int} {s : Sp} (h : GT xs n L pos f c X) (hlt : L.length < n) (hc : ∀ t, c t → t = s) (hX : ∀ M t, X M t = stT M (L.length + 1)) :
    GT xs n (L ++ [s]) pos f (fun _ => True) (fun M _ => stT M (L ++ [s]).length) := fun M hM => by
  obtain ⟨h1, h2, h3, h4, h5⟩ := h M hM
  have e := hc _ h4
  refine ⟨h1, h2, ?_, trivial, by rw [h5, hX]; simp⟩
  rw [List.length_append, List.length_singleton, take_snocSp (by omega), ← h3, e]
/-- At the end. -/
theorem GT.done {xs : List Int} {pos : Nat} {L : List Sp} {f : Bool} (h : GT xs L.length L pos f (fun _ => True) (fun M _ => stT M L.length)) {M : List Sp} (hM : Told6 xs M) : f = false ∧ L = M ∧ xs.length ≤ pos := by
  obtain ⟨h1, h2, h3, _, h5⟩ := h M hM
  have e : L = M := by rw [h3, h2, List.take_length]
  subst e
  replace h5 : xs.drop pos = stT L L.length := h5
  rw [stT_end] at h5
  refine ⟨h1, rfl, ?_⟩
  have : (xs.drop pos).length = 0 := by rw [h5]; rfl
  rw [List.length_drop] at this
  omega
end Go.Proofs.YtjgfjmkfcippcaaDoor
