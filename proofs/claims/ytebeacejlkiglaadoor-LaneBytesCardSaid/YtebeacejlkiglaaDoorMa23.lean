/-
  What the program reads of a proof's bytes.; What the document's Get answers.; The bytes of a proof, as the document writes them.
-/
import Derived.Test.YtebeacejlkiglaaDoorMa1
import Derived.Test.YtebeacejlkiglaaDoorMa2
import Derived.Test.YtebeacejlkiglaaDoorMa21
import Derived.Test.YtebeacejlkiglaaDoorMa22
namespace Go.Proofs.YtebeacejlkiglaaDoor
set_option maxRecDepth 100000
open Go.RowKit

def GetP (xs : List Int) (w : World) (e : Ending) (w' : World) : Prop := Below w.heap.size w w' ∧ ((∃ (p c : Nat) (Ss : List (List Int)) (q : Option Addr) (k : Nat), Told xs p c Ss ∧ e = .returned (.tuple #[.agg #[.int .i64 (p : Int), .int .i64 (c : Int), .slice q Ss.length k], .int .i64 0]) ∧ RdHs w' q Ss ∧ Ss.length ≤ k ∧ k ≤ maxLen) ∨ ((∀ p c Ss, ¬ Told xs p c Ss) ∧ e = .returned (.tuple #[pf0, .int .i64 21])))

theorem GetP.none {xs : List Int} {w w' : World} (hb : Below w.heap.size w w') (h : ∀ p c Ss, ¬ Told xs p c Ss) : GetP xs w (.returned (.tuple #[pf0, .int .i64 21])) w' := ⟨hb, .inr ⟨h, rfl⟩⟩
theorem GetP.some {xs : List Int} {w w' : World} {p c : Nat} {Ss : List (List Int)} {q : Option Addr} {n k : Nat} (hn : n = Ss.length) (hb : Below w.heap.size w w') (h : Told xs p c Ss) (hr : RdHs w' q Ss) (hk : n ≤ k) (hm : k ≤ maxLen) : GetP xs w (.returned (.tuple #[.agg #[.int .i64 (p : Int), .int .i64 (c : Int), .slice q n k], .int .i64 0])) w' := by
  subst hn
  exact ⟨hb, .inl ⟨p, c, Ss, q, k, h, rfl, hr, hk, hm⟩⟩

set_option maxHeartbeats 16000000 in
theorem Get_any {w : World} {v : Value} {xs : List Int} (hr : Rd w v xs) (hx : Bytes xs) (hl : xs.length ≤ 140737488355328) :
    Calls Tryd.prog 23 #[v] w (GetP xs w) := by
  obtain ⟨i0, hi, hz0, hz1, hz2⟩ := info_parts Tryd.infoHs
  replace hi := Lib.hid hi
  replace hz0 := Lib.hid hz0
  replace hz1 := Lib.hid hz1
  replace hz2 := Lib.hid hz2
  obtain ⟨qv, cv, rfl⟩ := hr.len
  have HX := Lib.hid hx
  have b0 : Below w.heap.size w (w.alloc (.cells #[.int .i64 0, .int .i64 0, .slice none 0 0] 28)) := (Below.refl _ _).alloc (Nat.le_refl _) _
  have HO := Lib.hid (heap_alloc_new w (.cells #[.int .i64 0, .int .i64 0, .slice none 0 0] 28))
  have KN := Lib.hid (NewReader_any (hr.on b0) hl)
  have B0 := Lib.hid b0
  clear hr hx b0
  go_enter Tryd.func23, Tryd.ntmps23
  go_wp2_with fail
  generalize w.alloc (.cells #[.int .i64 0, .int .i64 0, .slice none 0 0] 28) = w0 at *
  refine KN.out.mono ?_
  rintro e w1 ⟨p, v1, rfl, hV, hp, hb1, hv1⟩
  have HV1 : Hid (∀ g, v1.ownBlock = some g → g ≠ p) := fun g hg e => hV.ne (e ▸ hg)
  have hw0 : Hid (w.heap.size < w0.heap.size) := (Array.getElem?_eq_some_iff.1 HO.out).1
  have hop : w.heap.size < p := by have := hw0.out; omega
  have HO1 := Lib.hid (blk_onB2 HO.out hb1)
  have B1 := Lib.hid (B0.out.trans (hb1.mono B0.out.size))
  have HVO := Lib.hid hV.own
  have S1 := Lib.hid (RSt.mk0 hV)
  clear hV hb1 KN HO B0 hv1 hp
  go_wp2_with fail
  refine (Count_st (most := 65536) S1.out HX.out (by omega)).mono ?_
  rintro e w2 ⟨z1, f1, rfl, hz1m, hs2, hc2, g1, g1'⟩
  have B2 := Lib.hid (B1.out.trans (hc2.toBelow B1.out.size (fun k hk => by simp at hk; omega)))
  have HO2 : Hid (w2.heap[w.heap.size]? = some (.cells #[.int .i64 0, .int .i64 0, .slice none 0 0] 28 (0, 0))) := by show _ = _; rw [hc2.block _ (Array.getElem?_eq_some_iff.1 HO1.out).1 (by simp; omega)]; exact HO1.out
  have VO2 := Lib.hid (own_chg2 HVO.out hc2 (fun g hg hm => HV1.out g hg (by simpa using hm)))
  have S2 := Lib.hid hs2
  have G1 := Lib.hid g1
  have G1' := Lib.hid g1'
  clear hs2 hc2 g1 g1' S1 HVO HO1 B1
  go_wp2_with fail
  refine (Count_st (most := 65536) S2.out HX.out (by omega)).mono ?_
  rintro e w3 ⟨z2, f2, rfl, hz2m, hs3, hc3, g2, g2'⟩
  have b4 : Below w3.heap.size w3 (w3.alloc (.cells #[.int .i64 (z1 : Int), .int .i64 (z2 : Int), .slice none 0 0] 28)) := (Below.refl _ _).alloc (Nat.le_refl _) _
  have B3 := B2.out.trans (hc3.toBelow B2.out.size (fun k hk => by simp at hk; omega))
  have B4 := Lib.hid (B3.trans (b4.mono B3.size))
  have HO4 : Hid ((w3.alloc (.cells #[.int .i64 (z1 : Int), .int .i64 (z2 : Int), .slice none 0 0] 28)).heap[w.heap.size]? = some (.cells #[.int .i64 0, .int .i64 0, .slice none 0 0] 28 (0, 0))) := blk_onB2 (show w3.heap[w.heap.size]? = _ by rw [hc3.block _ (Array.getElem?_eq_some_iff.1 HO2.out).1 (by simp; omega)]; exact HO2.out) b4
  have HB4 := Lib.hid (heap_alloc_new w3 (.cells #[.int .i64 (z1 : Int), .int .i64 (z2 : Int), .slice none 0 0] 28))
  have VO4 := Lib.hid (own_on (own_chg2 VO2.out hc3 (fun g hg hm => HV1.out g hg (by simpa using hm))) b4)
  have S4 := Lib.hid (hs3.on b4)
  have hpw3 : p < w3.heap.size := hs3.lt
  have hob3 : w.heap.size < w3.heap.size := by omega
  have G2 := Lib.hid g2
  have G2' := Lib.hid g2'
  have K5 := Lib.hid (Count_st (most := 16) S4.out HX.out (by omega))
  clear hs3 hc3 g2 g2' S2 VO2 HO2 B2 B3 b4
  go_wp2_with fail
  generalize (w3.alloc (.cells #[.int .i64 (z1 : Int), .int .i64 (z2 : Int), .slice none 0 0] 28)) = w4 at *
  generalize w3.heap.size = bp at *
  refine K5.out.mono ?_
  rintro e w5 ⟨z3, f3, rfl, hz3m, hs5, hc5, g3, g3'⟩
  have B5 := Lib.hid (B4.out.trans (hc5.toBelow B4.out.size (fun k hk => by simp at hk; omega)))
  have HNP0 : Hid (∀ g, (Value.slice none 0 0).ownBlock = some g → g ≠ p) := fun g hg => by simp [Value.ownBlock] at hg
  have S5 : Hid (GtS w w5 28 p bp v1 xs (fun W => RSt W p v1 xs (24 + 32 * 0) f3) z1 z2 none 0 0 []) := by
    refine ⟨?_, ?_, ⟨World.ownsRow_nil w5 0 _ 32, HsOk.nil, by simp [Value.ownBlock], B5.out⟩, hs5, own_chg2 VO4.out hc5 (fun g hg hm => HV1.out g hg (by simpa using hm)), by omega, hob3, hop, rfl⟩
    · rw [hc5.block _ (Array.getElem?_eq_some_iff.1 HO4.out).1 (by simp; omega)]; exact HO4.out
    · rw [hc5.block _ (Array.getElem?_eq_some_iff.1 HB4.out).1 (by simp; omega)]; exact HB4.out
  have GA : Hid (f3 = false → 24 ≤ xs.length ∧ num ((xs.drop 0).take 8) = z1 ∧ num ((xs.drop 8).take 8) = z2 ∧ num ((xs.drop 16).take 8) = z3) := fun e => by
    obtain ⟨e3, l3, n3⟩ := g3 e
    obtain ⟨e2, l2, n2⟩ := G2.out e3
    obtain ⟨e1, l1, n1⟩ := G1.out e2
    exact ⟨by omega, n1, n2, n3⟩
  have GB : Hid (f3 = true → ∀ p c Ss, ¬ Told xs p c Ss) := fun e p' c' Ss ht => by
    obtain ⟨b1, b2, b3, -⟩ := ht.bounds
    obtain ⟨l, n1, n2, n3, -⟩ := ht.nums
    have q1 : f1 = true → False := fun e => by
      rcases G1'.out e with h | h | h
      · simp at h
      · omega
      · have n1' : num ((xs.drop 0).take 8) = p' := n1
        omega
    have q2 : f2 = true → False := fun e => by
      rcases G2'.out e with h | h | h
      · exact q1 h
      · omega
      · have n2' : num ((xs.drop (0 + 8)).take 8) = c' := n2
        omega
    rcases g3' e with h | h | h
    · exact q2 h
    · omega
    · have n3' : num ((xs.drop (0 + 8 + 8)).take 8) = Ss.length := n3
      omega
  clear hs5 hc5 g3 g3' S4 VO4 HO4 HB4 B4 K5 G1 G1' G2 G2'
  go_wp2_with fail
  go_loopw [15] (fun iv wr => ∃ (i : Nat) (f : Bool) (qa : Option Addr) (na ca : Nat) (acc : List (List Int)), iv = .int .i64 i ∧ i ≤ z3 ∧ na ≤ i ∧ i ≤ na ∧ Hid (f = false → f3 = false ∧ 24 + 32 * i ≤ xs.length ∧ acc = chunks i (xs.drop 24)) ∧ Hid (f = true → f3 = true ∨ xs.length < 24 + 32 * i) ∧ Hid (∀ g, (Value.slice qa na ca).ownBlock = some g → g ≠ p) ∧ Hid (GtS w wr 28 p bp v1 xs (fun W => RSt W p v1 xs (24 + 32 * i) f) z1 z2 qa na ca acc)) (fun iv _ => z3 - (intOf iv).toNat)
  case atStart => exact ⟨0, f3, none, 0, 0, [], rfl, by omega, by omega, by omega, (fun e => ⟨e, by have := (GA.out e).1; omega, by simp [chunks]⟩), (fun e => .inl e), HNP0, S5⟩
  case round =>
    clear S5 HNP0
    obtain ⟨i, f, qa, na, ca, acc, rfl, hi3, hna, hna', HF0, HF1, HNP, hS⟩ := hrel
    have c2 := (Joins.cell_of_block hS.out.blk 2).trans (rfl : _ = some _)
    by_cases hlt : i < z3
    · go_wp2_with fail
      refine wp_region_held_drew (S := fun _ => True) (by kernel_rfl) (trivial) (fun h0 => ?_)
      refine wpAnyH_take (i := 0) (v := ?_) (by rw [List.getElem?_toArray]; rfl) (by kernel_rfl) (by kernel_rfl) (by kernel_rfl) (by exact fun _ _ _ h => h) (Or.inl ⟨by rfl, ?_⟩) h0 ?_
      rotate_left
      · intro W hW
        go_simp
        all_goals with_reducible rfl
      try simp only [Act.put, List.setIfInBounds_toArray, List.set_cons_zero, List.set_cons_succ]
      refine wpAnyH_take (i := 2) (v := ?_) (by rw [List.getElem?_toArray]; rfl) (by kernel_rfl) (by kernel_rfl) (by kernel_rfl) (by exact fun _ _ _ h => h) (Or.inl ⟨by rfl, ?_⟩) h0 ?_
      rotate_left
      · intro W hW
        go_simp
        all_goals with_reducible rfl
      try simp only [Act.put, List.setIfInBounds_toArray, List.set_cons_zero, List.set_cons_succ]
      refine wpAnyH_ready (rs := [1, 3]) (by kernel_rfl) (by simp) ?_
      refine AllReadyH.cons (by rw [List.getElem?_toArray]; rfl) (fun K hK => ?_) (AllReadyH.cons (by rw [List.getElem?_toArray]; rfl) (fun K hK => ?_) AllReadyH.nil)
      · rw [if_pos (by rfl)]
        go_wp2_with fail
        refine hK.out _ _ (trivial) (fun h1 => ?_)
        clear hK K
        try simp only [Act.put, List.setIfInBounds_toArray, List.set_cons_zero, List.set_cons_succ]
        refine wpAnyH_ready (rs := [3]) (by kernel_rfl) (by simp) ?_
        refine AllReadyH.cons (by rw [List.getElem?_toArray]; rfl) (fun K hK => ?_) AllReadyH.nil
        rw [if_pos (by rfl)]
        go_wp2_with fail
        refine (Hash_st (hS.out.rd.on ((Below.refl _ _).drew)) HX.out).mono ?_
        rintro e w6 ⟨Fh, f', rfl, hF, bF, h6, hc6, hf0, hf1⟩
        have lF := hc_len Fh
        have hc6' : Chg wr w6 [p] := (Chg.refl wr [p]).drew.trans hc6 (fun x hx _ => hx)
        have S6 := Lib.hid (GtS.hash (R' := fun W => RSt W p v1 xs (24 + 32 * i + 32) f') hS.out hc6' h6 HNP.out HV1.out)
        have c6 := (Joins.cell_of_block S6.out.blk 2).trans (rfl : _ = some _)
        have HF0' := Lib.hid hf0
        have HF1' := Lib.hid hf1
        clear hc6 hc6' h6 hf0 hf1
        go_wp2_with fail
        refine hK.out _ _ (trivial) (fun h3 => ?_)
        clear hK K
        try simp only [Act.put, List.setIfInBounds_toArray, List.set_cons_zero, List.set_cons_succ]
        refine wpAnyH_ready (rs := [4]) (by kernel_rfl) (by simp) ?_
        refine AllReadyH.cons (by rw [List.getElem?_toArray]; rfl) (fun K hK => ?_) AllReadyH.nil
        rw [if_pos (by rfl)]
        have b7 : Below w6.heap.size w6 (w6.alloc (.cells (hc Fh).toArray 36)) := (Below.refl _ _).alloc (Nat.le_refl _) _
        have R7 := Lib.hid (one_hs (w := w6) hF bF)
        have c7 := (Joins.cell_of_block (blk_onB2 S6.out.blk b7) 2).trans (rfl : _ = some _)
        have OW : (w6.alloc (.cells (hc Fh).toArray 36)).ownsRow 0 36 32 (.slice qa na ca) na (hcs acc) := by have := own_on S6.out.hs.own b7; rw [← S6.out.ln] at this; exact this
        clear b7
        go_wp2_with fail
        refine hK.out _ _ (trivial) (fun h4 => ?_)
        clear hK K
        try simp only [Act.put, List.setIfInBounds_toArray, List.set_cons_zero, List.set_cons_succ]
        refine wpAnyH_ready (rs := [5]) (by kernel_rfl) (by simp) ?_
        refine AllReadyH.cons (by rw [List.getElem?_toArray]; rfl) (fun K hK => ?_) AllReadyH.nil
        rw [if_pos (by rfl)]
        refine wp_append_row _ _ rfl Tryd.underlying26 hi.out hz0.out hz1.out hz2.out zero_cells OW (R7.out.src (P := Tryd.prog) (HsOk.one hF bF) Tryd.underlying26) (by unfold maxLen; (try simp only [List.length_singleton]); omega) (by (try simp only [List.length_singleton]); omega) ?_
        intro q8 k8 w8 own8' grow8' fr8'
        have own8 : w8.ownsRow 0 36 32 (.slice q8 (na + 1) k8) (na + 1) (hcs acc ++ hcs [Fh]) := own8'
        have grow8 : (w6.alloc (.cells (hc Fh).toArray 36)).grownBy w8 (Value.slice qa na ca).ownBlock := grow8'
        have fr8 : (Value.slice q8 (na + 1) k8).ownBlock = (Value.slice qa na ca).ownBlock ∨ (Value.slice q8 (na + 1) k8).ownBlock = some (w6.alloc (.cells (hc Fh).toArray 36)).heap.size := fr8'
        have HN := Lib.hid (GtS.push S6.out (by decide) (by decide) HNP.out hF bF own8 grow8 fr8 (fun K w' hc hk hv => S6.out.rd.chg hc (fun hm => hk p hm rfl) hv))
        have HNP2 : Hid (∀ g, (Value.slice q8 (na + 1) k8).ownBlock = some g → g ≠ p) := fun g hg => by
          rcases fr8 with e | e
          · rw [e] at hg; exact HNP.out g hg
          · rw [e] at hg
            have := S6.out.rd.lt
            simp at hg
            omega
        have f2 := Joins.unfrozen_of_block HN.out.1 2
        have z2' := (Joins.cell_of_block HN.out.1 2).trans (rfl : _ = some _)
        clear own8' grow8' fr8' own8 grow8 fr8 OW R7
        refine hK.out _ _ (trivial) (fun h8 => ?_)
        clear hK K
        try simp only [Act.put, List.setIfInBounds_toArray, List.set_cons_zero, List.set_cons_succ]
        refine wpAnyH_take (i := 6) (v := ?_) (by rw [List.getElem?_toArray]; rfl) (by kernel_rfl) (by kernel_rfl) (by kernel_rfl) (by exact fun _ _ _ h => h) (Or.inl ⟨by rfl, ?_⟩) h8 ?_
        rotate_left
        · intro W hW
          go_simp
          all_goals with_reducible rfl
        try simp only [Act.put, List.setIfInBounds_toArray, List.set_cons_zero, List.set_cons_succ]
        refine wpAnyH_ready (rs := [7]) (by kernel_rfl) (by simp) ?_
        refine AllReadyH.cons (by rw [List.getElem?_toArray]; rfl) (fun K hK => ?_) AllReadyH.nil
        rw [if_pos (by rfl)]
        go_wp2_with fail
        refine hK.out _ _ (trivial) (fun h9 => ?_)
        clear hK K
        try simp only [Act.put, List.setIfInBounds_toArray, List.set_cons_zero, List.set_cons_succ]
        refine wpAnyH_done (by kernel_rfl) ?_ _
        have HNN := Lib.hid HN.out.2
        clear h9 h8 HN z2' f2 c6 c7
        go_wp2_with fail
        go_roundw
        case rel => exact ⟨i + 1, f', q8, na + 1, k8, acc ++ [Fh], by go_num, by omega, by omega, by omega, (by
          show _ → _
          intro e
          obtain ⟨e1, e2, e3⟩ := HF0'.out e
          obtain ⟨a1, a2, a3⟩ := HF0.out e1
          refine ⟨a1, by omega, ?_⟩
          rw [a3, chunks_succ, List.drop_drop, e3]), (by
          show _ → _
          intro e
          rcases HF1'.out e with e1 | e1
          · rcases HF1.out e1 with a | a
            · exact .inl a
            · exact .inr (by omega)
          · exact .inr (by omega)), HNP2, HNN⟩
        case measure => simp [intOf]; omega
      · rw [if_pos (by rfl)]
        go_wp2_with fail
        refine (Hash_st (hS.out.rd.on ((Below.refl _ _).drew)) HX.out).mono ?_
        rintro e w6 ⟨Fh, f', rfl, hF, bF, h6, hc6, hf0, hf1⟩
        have lF := hc_len Fh
        have hc6' : Chg wr w6 [p] := (Chg.refl wr [p]).drew.trans hc6 (fun x hx _ => hx)
        have S6 := Lib.hid (GtS.hash (R' := fun W => RSt W p v1 xs (24 + 32 * i + 32) f') hS.out hc6' h6 HNP.out HV1.out)
        have c6 := (Joins.cell_of_block S6.out.blk 2).trans (rfl : _ = some _)
        have HF0' := Lib.hid hf0
        have HF1' := Lib.hid hf1
        clear hc6 hc6' h6 hf0 hf1
        go_wp2_with fail
        refine hK.out _ _ (trivial) (fun h3 => ?_)
        clear hK K
        try simp only [Act.put, List.setIfInBounds_toArray, List.set_cons_zero, List.set_cons_succ]
        refine wpAnyH_ready (rs := [1, 4]) (by kernel_rfl) (by simp) ?_
        refine AllReadyH.cons (by rw [List.getElem?_toArray]; rfl) (fun K hK => ?_) (AllReadyH.cons (by rw [List.getElem?_toArray]; rfl) (fun K hK => ?_) AllReadyH.nil)
        · rw [if_pos (by rfl)]
          go_wp2_with fail
          refine hK.out _ _ (trivial) (fun h1 => ?_)
          clear hK K
          try simp only [Act.put, List.setIfInBounds_toArray, List.set_cons_zero, List.set_cons_succ]
          refine wpAnyH_ready (rs := [4]) (by kernel_rfl) (by simp) ?_
          refine AllReadyH.cons (by rw [List.getElem?_toArray]; rfl) (fun K hK => ?_) AllReadyH.nil
          rw [if_pos (by rfl)]
          have b7 : Below w6.heap.size w6 (w6.alloc (.cells (hc Fh).toArray 36)) := (Below.refl _ _).alloc (Nat.le_refl _) _
          have R7 := Lib.hid (one_hs (w := w6) hF bF)
          have c7 := (Joins.cell_of_block (blk_onB2 S6.out.blk b7) 2).trans (rfl : _ = some _)
          have OW : (w6.alloc (.cells (hc Fh).toArray 36)).ownsRow 0 36 32 (.slice qa na ca) na (hcs acc) := by have := own_on S6.out.hs.own b7; rw [← S6.out.ln] at this; exact this
          clear b7
          go_wp2_with fail
          refine hK.out _ _ (trivial) (fun h4 => ?_)
          clear hK K
          try simp only [Act.put, List.setIfInBounds_toArray, List.set_cons_zero, List.set_cons_succ]
          refine wpAnyH_ready (rs := [5]) (by kernel_rfl) (by simp) ?_
          refine AllReadyH.cons (by rw [List.getElem?_toArray]; rfl) (fun K hK => ?_) AllReadyH.nil
          rw [if_pos (by rfl)]
          refine wp_append_row _ _ rfl Tryd.underlying26 hi.out hz0.out hz1.out hz2.out zero_cells OW (R7.out.src (P := Tryd.prog) (HsOk.one hF bF) Tryd.underlying26) (by unfold maxLen; (try simp only [List.length_singleton]); omega) (by (try simp only [List.length_singleton]); omega) ?_
          intro q8 k8 w8 own8' grow8' fr8'
          have own8 : w8.ownsRow 0 36 32 (.slice q8 (na + 1) k8) (na + 1) (hcs acc ++ hcs [Fh]) := own8'
          have grow8 : (w6.alloc (.cells (hc Fh).toArray 36)).grownBy w8 (Value.slice qa na ca).ownBlock := grow8'
          have fr8 : (Value.slice q8 (na + 1) k8).ownBlock = (Value.slice qa na ca).ownBlock ∨ (Value.slice q8 (na + 1) k8).ownBlock = some (w6.alloc (.cells (hc Fh).toArray 36)).heap.size := fr8'
          have HN := Lib.hid (GtS.push S6.out (by decide) (by decide) HNP.out hF bF own8 grow8 fr8 (fun K w' hc hk hv => S6.out.rd.chg hc (fun hm => hk p hm rfl) hv))
          have HNP2 : Hid (∀ g, (Value.slice q8 (na + 1) k8).ownBlock = some g → g ≠ p) := fun g hg => by
            rcases fr8 with e | e
            · rw [e] at hg; exact HNP.out g hg
            · rw [e] at hg
              have := S6.out.rd.lt
              simp at hg
              omega
          have f2 := Joins.unfrozen_of_block HN.out.1 2
          have z2' := (Joins.cell_of_block HN.out.1 2).trans (rfl : _ = some _)
          clear own8' grow8' fr8' own8 grow8 fr8 OW R7
          refine hK.out _ _ (trivial) (fun h8 => ?_)
          clear hK K
          try simp only [Act.put, List.setIfInBounds_toArray, List.set_cons_zero, List.set_cons_succ]
          refine wpAnyH_take (i := 6) (v := ?_) (by rw [List.getElem?_toArray]; rfl) (by kernel_rfl) (by kernel_rfl) (by kernel_rfl) (by exact fun _ _ _ h => h) (Or.inl ⟨by rfl, ?_⟩) h8 ?_
          rotate_left
          · intro W hW
            go_simp
            all_goals with_reducible rfl
          try simp only [Act.put, List.setIfInBounds_toArray, List.set_cons_zero, List.set_cons_succ]
          refine wpAnyH_ready (rs := [7]) (by kernel_rfl) (by simp) ?_
          refine AllReadyH.cons (by rw [List.getElem?_toArray]; rfl) (fun K hK => ?_) AllReadyH.nil
          rw [if_pos (by rfl)]
          go_wp2_with fail
          refine hK.out _ _ (trivial) (fun h9 => ?_)
          clear hK K
          try simp only [Act.put, List.setIfInBounds_toArray, List.set_cons_zero, List.set_cons_succ]
          refine wpAnyH_done (by kernel_rfl) ?_ _
          have HNN := Lib.hid HN.out.2
          clear h9 h8 HN z2' f2 c6 c7
          go_wp2_with fail
          go_roundw
          case rel => exact ⟨i + 1, f', q8, na + 1, k8, acc ++ [Fh], by go_num, by omega, by omega, by omega, (by
            show _ → _
            intro e
            obtain ⟨e1, e2, e3⟩ := HF0'.out e
            obtain ⟨a1, a2, a3⟩ := HF0.out e1
            refine ⟨a1, by omega, ?_⟩
            rw [a3, chunks_succ, List.drop_drop, e3]), (by
            show _ → _
            intro e
            rcases HF1'.out e with e1 | e1
            · rcases HF1.out e1 with a | a
              · exact .inl a
              · exact .inr (by omega)
            · exact .inr (by omega)), HNP2, HNN⟩
          case measure => simp [intOf]; omega
        · rw [if_pos (by rfl)]
          have b7 : Below w6.heap.size w6 (w6.alloc (.cells (hc Fh).toArray 36)) := (Below.refl _ _).alloc (Nat.le_refl _) _
          have R7 := Lib.hid (one_hs (w := w6) hF bF)
          have c7 := (Joins.cell_of_block (blk_onB2 S6.out.blk b7) 2).trans (rfl : _ = some _)
          have OW : (w6.alloc (.cells (hc Fh).toArray 36)).ownsRow 0 36 32 (.slice qa na ca) na (hcs acc) := by have := own_on S6.out.hs.own b7; rw [← S6.out.ln] at this; exact this
          clear b7
          go_wp2_with fail
          refine hK.out _ _ (trivial) (fun h4 => ?_)
          clear hK K
          try simp only [Act.put, List.setIfInBounds_toArray, List.set_cons_zero, List.set_cons_succ]
          refine wpAnyH_ready (rs := [1]) (by kernel_rfl) (by simp) ?_
          refine AllReadyH.cons (by rw [List.getElem?_toArray]; rfl) (fun K hK => ?_) AllReadyH.nil
          rw [if_pos (by rfl)]
          go_wp2_with fail
          refine hK.out _ _ (trivial) (fun h1 => ?_)
          clear hK K
          try simp only [Act.put, List.setIfInBounds_toArray, List.set_cons_zero, List.set_cons_succ]
          refine wpAnyH_ready (rs := [5]) (by kernel_rfl) (by simp) ?_
          refine AllReadyH.cons (by rw [List.getElem?_toArray]; rfl) (fun K hK => ?_) AllReadyH.nil
          rw [if_pos (by rfl)]
          refine wp_append_row _ _ rfl Tryd.underlying26 hi.out hz0.out hz1.out hz2.out zero_cells OW (R7.out.src (P := Tryd.prog) (HsOk.one hF bF) Tryd.underlying26) (by unfold maxLen; (try simp only [List.length_singleton]); omega) (by (try simp only [List.length_singleton]); omega) ?_
          intro q8 k8 w8 own8' grow8' fr8'
          have own8 : w8.ownsRow 0 36 32 (.slice q8 (na + 1) k8) (na + 1) (hcs acc ++ hcs [Fh]) := own8'
          have grow8 : (w6.alloc (.cells (hc Fh).toArray 36)).grownBy w8 (Value.slice qa na ca).ownBlock := grow8'
          have fr8 : (Value.slice q8 (na + 1) k8).ownBlock = (Value.slice qa na ca).ownBlock ∨ (Value.slice q8 (na + 1) k8).ownBlock = some (w6.alloc (.cells (hc Fh).toArray 36)).heap.size := fr8'
          have HN := Lib.hid (GtS.push S6.out (by decide) (by decide) HNP.out hF bF own8 grow8 fr8 (fun K w' hc hk hv => S6.out.rd.chg hc (fun hm => hk p hm rfl) hv))
          have HNP2 : Hid (∀ g, (Value.slice q8 (na + 1) k8).ownBlock = some g → g ≠ p) := fun g hg => by
            rcases fr8 with e | e
            · rw [e] at hg; exact HNP.out g hg
            · rw [e] at hg
              have := S6.out.rd.lt
              simp at hg
              omega
          have f2 := Joins.unfrozen_of_block HN.out.1 2
          have z2' := (Joins.cell_of_block HN.out.1 2).trans (rfl : _ = some _)
          clear own8' grow8' fr8' own8 grow8 fr8 OW R7
          refine hK.out _ _ (trivial) (fun h8 => ?_)
          clear hK K
          try simp only [Act.put, List.setIfInBounds_toArray, List.set_cons_zero, List.set_cons_succ]
          refine wpAnyH_take (i := 6) (v := ?_) (by rw [List.getElem?_toArray]; rfl) (by kernel_rfl) (by kernel_rfl) (by kernel_rfl) (by exact fun _ _ _ h => h) (Or.inl ⟨by rfl, ?_⟩) h8 ?_
          rotate_left
          · intro W hW
            go_simp
            all_goals with_reducible rfl
          try simp only [Act.put, List.setIfInBounds_toArray, List.set_cons_zero, List.set_cons_succ]
          refine wpAnyH_ready (rs := [7]) (by kernel_rfl) (by simp) ?_
          refine AllReadyH.cons (by rw [List.getElem?_toArray]; rfl) (fun K hK => ?_) AllReadyH.nil
          rw [if_pos (by rfl)]
          go_wp2_with fail
          refine hK.out _ _ (trivial) (fun h9 => ?_)
          clear hK K
          try simp only [Act.put, List.setIfInBounds_toArray, List.set_cons_zero, List.set_cons_succ]
          refine wpAnyH_done (by kernel_rfl) ?_ _
          have HNN := Lib.hid HN.out.2
          clear h9 h8 HN z2' f2 c6 c7
          go_wp2_with fail
          go_roundw
          case rel => exact ⟨i + 1, f', q8, na + 1, k8, acc ++ [Fh], by go_num, by omega, by omega, by omega, (by
            show _ → _
            intro e
            obtain ⟨e1, e2, e3⟩ := HF0'.out e
            obtain ⟨a1, a2, a3⟩ := HF0.out e1
            refine ⟨a1, by omega, ?_⟩
            rw [a3, chunks_succ, List.drop_drop, e3]), (by
            show _ → _
            intro e
            rcases HF1'.out e with e1 | e1
            · rcases HF1.out e1 with a | a
              · exact .inl a
              · exact .inr (by omega)
            · exact .inr (by omega)), HNP2, HNN⟩
          case measure => simp [intOf]; omega
    · have hiz : i = z3 := by omega
      subst hiz
      have hle := hS.out.hs.own.1
      have hD := Done_st hS.out.rd
      have NOT : Hid ((f = true ∨ 24 + 32 * i ≠ xs.length) → ∀ p c Ss, ¬ Told xs p c Ss) := fun h p' c' Ss ht => by
        have hn := ht.nums
        have g3 : f3 = false := by
          cases h3 : f3 with
          | false => rfl
          | true => exact absurd ht (GB.out h3 p' c' Ss)
        have n3 := (GA.out g3).2.2.2
        have l1 := hn.1
        have n3' := hn.2.2.2.1
        have e : Ss.length = i := by omega
        rcases h with h | h
        · rcases HF1.out h with a | a
          · rw [g3] at a; simp at a
          · omega
        · omega
      -- where Get answers none
      have OUTN : ∀ W : World, W.heap[w.heap.size]? = some (.cells #[.int .i64 0, .int .i64 0, .slice none 0 0] 28 (0, 0)) → Below w.heap.size w W → Below w.heap.size w (((W.setCell ⟨w.heap.size, 0, none⟩ (.int .i64 0)).setCell ⟨w.heap.size, 1, none⟩ (.int .i64 0)).setCell ⟨w.heap.size, 2, none⟩ (.slice none 0 0)) ∧ (((W.setCell ⟨w.heap.size, 0, none⟩ (.int .i64 0)).setCell ⟨w.heap.size, 1, none⟩ (.int .i64 0)).setCell ⟨w.heap.size, 2, none⟩ (.slice none 0 0)).heap[w.heap.size]? = some (.cells #[.int .i64 0, .int .i64 0, .slice none 0 0] 28 (0, 0)) := fun W h1 h2 =>
        ⟨((h2.setCell (p := ⟨_, 0, none⟩) (by simp) _).setCell (p := ⟨_, 1, none⟩) (by simp) _).setCell (p := ⟨_, 2, none⟩) (by simp) _, Joins.block_setCell (Joins.block_setCell (Joins.block_setCell h1 _) _) _⟩
      have HON := Lib.hid OUTN
      clear OUTN
      go_wp2_with fail
      refine hD.mono ?_
      rintro e w7 ⟨d, m, rfl, rfl, hd⟩
      have O7 : Hid ((wr.drewN m).heap[w.heap.size]? = some (.cells #[.int .i64 0, .int .i64 0, .slice none 0 0] 28 (0, 0))) := hS.out.out
      have BW7 := Lib.hid (below_drewN hS.out.hs.below m)
      by_cases hd0 : d = 0
      case neg =>
        have hd1 : (d == 0) = false := by simpa using hd0
        have HR : Hid (∀ p c Ss, ¬ Told xs p c Ss) := NOT.out (by
          by_cases hf : f = true
          · exact .inl hf
          · refine .inr (fun e => hd0 (hd.2 ⟨by simpa using hf, e⟩)))
        obtain ⟨BN, ON⟩ := HON.out _ O7.out BW7.out
        have y0 := (Joins.cell_of_block ON 0).trans (rfl : _ = some _)
        have y1 := (Joins.cell_of_block ON 1).trans (rfl : _ = some _)
        have y2 := (Joins.cell_of_block ON 2).trans (rfl : _ = some _)
        have x0 := (Joins.cell_of_block O7.out 0).trans (rfl : _ = some _)
        have x1 := (Joins.cell_of_block O7.out 1).trans (rfl : _ = some _)
        have x2 := (Joins.cell_of_block O7.out 2).trans (rfl : _ = some _)
        have k0 := Joins.unfrozen_of_block O7.out 0
        have k1 := Joins.unfrozen_of_block O7.out 1
        have k2 := Joins.unfrozen_of_block O7.out 2
        have HBN := Lib.hid BN
        clear hd hS BN ON hD NOT HON
        go_wp2_with fail
        refine bodyPost_ret (v := .tuple #[pf0, .int .i64 21]) (by simp [results, Tryd.results23, go_sem, y0, y1, y2, pf0]) rfl (GetP.none HBN.out HR.out)
      subst hd0
      obtain ⟨hff, hpos⟩ := hd.1 rfl
      obtain ⟨g3, hle24, hacc⟩ := HF0.out hff
      have GN := Lib.hid (GA.out g3)
      have hx2 : 24 + 32 * i = xs.length := hpos
      have RB := right_any (w := wr.drewN m) (P := (z1 : Int)) (C := (z2 : Int)) (q := qa) (n := na) (k := ca) (by unfold maxLen; omega)
      have P7 : Hid ((wr.drewN m).heap[bp]? = some (.cells #[.int .i64 (z1 : Int), .int .i64 (z2 : Int), .slice qa na ca] 28 (0, 0))) := hS.out.blk
      have hln := hS.out.ln
      have hc0 := (Joins.cell_of_block P7.out 0).trans (rfl : _ = some _)
      have hc1 := (Joins.cell_of_block P7.out 1).trans (rfl : _ = some _)
      have hc2 := (Joins.cell_of_block P7.out 2).trans (rfl : _ = some _)
      have HS7 : Hid (HsS w (wr.drewN m) (.slice qa na ca) acc) := Lib.hid ⟨hS.out.hs.own, hS.out.hs.ok, hS.out.hs.fresh, BW7.out⟩
      have hia : i = acc.length := by omega
      have HTold : Hid (okPf (z1 : Int) (z2 : Int) na = true → Told xs z1 z2 acc) := fun hok => by
        obtain ⟨-, n1, n2, n3⟩ := GN.out
        refine ⟨hS.out.hs.ok, by rw [hln] at hok; exact hok, ?_⟩
        have := pfB_of HX.out (n := i) (by omega) n3
        rw [n1, n2, ← hacc] at this
        exact this
      have HNot : Hid (okPf (z1 : Int) (z2 : Int) na = false → ∀ p c Ss, ¬ Told xs p c Ss) := fun hok p' c' Ss ht => by
        obtain ⟨-, n1, n2, n3⟩ := GN.out
        obtain ⟨l, a1, a2, a3, a4⟩ := ht.nums
        have e1 : p' = z1 := by omega
        have e2 : c' = z2 := by omega
        have e3 : Ss.length = na := by omega
        have := ht.2.1
        rw [e1, e2, e3, hok] at this
        simp at this
      obtain ⟨ok, hokv⟩ : ∃ ok, okPf (z1 : Int) (z2 : Int) na = ok := ⟨_, rfl⟩
      rw [hokv] at RB HTold HNot
      have KRB := Lib.hid RB
      have HLN := Lib.hid hln
      clear hd hD NOT hS hokv RB hacc hln hia GN
      go_wp2_with fail
      refine KRB.out.mono ?_
      rintro e w8 ⟨rfl, hb8⟩
      have O8 := Lib.hid (blk_onB2 O7.out hb8)
      have P8 := Lib.hid (blk_onB2 P7.out hb8)
      have HS8 := Lib.hid (HS7.out.on hb8)
      have BW8 := Lib.hid (BW7.out.trans (hb8.mono BW7.out.size))
      have x0 := (Joins.cell_of_block O8.out 0).trans (rfl : _ = some _)
      have x1 := (Joins.cell_of_block O8.out 1).trans (rfl : _ = some _)
      have x2 := (Joins.cell_of_block O8.out 2).trans (rfl : _ = some _)
      have k0 := Joins.unfrozen_of_block O8.out 0
      have k1 := Joins.unfrozen_of_block O8.out 1
      have k2 := Joins.unfrozen_of_block O8.out 2
      clear hb8 KRB hc0 hc1 hc2 O7 P7 HS7 BW7
      cases ok with
      | false =>
        obtain ⟨BN, ON⟩ := HON.out _ O8.out BW8.out
        have y0 := (Joins.cell_of_block ON 0).trans (rfl : _ = some _)
        have y1 := (Joins.cell_of_block ON 1).trans (rfl : _ = some _)
        have y2 := (Joins.cell_of_block ON 2).trans (rfl : _ = some _)
        have HBN := Lib.hid BN
        clear BN ON HON
        go_wp2_with fail
        refine bodyPost_ret (v := .tuple #[pf0, .int .i64 21]) (by simp [results, Tryd.results23, go_sem, y0, y1, y2, pf0]) rfl (GetP.none HBN.out (HNot.out (by simp)))
      | true =>
        have c0 := (Joins.cell_of_block P8.out 0).trans (rfl : _ = some _)
        have c1 := (Joins.cell_of_block P8.out 1).trans (rfl : _ = some _)
        have c2' := (Joins.cell_of_block P8.out 2).trans (rfl : _ = some _)
        have hne : (Value.slice qa na ca).ownBlock ≠ some w.heap.size := own_ne HS8.out.own O8.out (by decide)
        have HF : Hid (HsS w (((w8.setCell ⟨w.heap.size, 0, none⟩ (.int .i64 (z1 : Int))).setCell ⟨w.heap.size, 1, none⟩ (.int .i64 (z2 : Int))).setCell ⟨w.heap.size, 2, none⟩ (.slice qa na ca)) (.slice qa na ca) acc) := by
          refine ⟨own_keep HS8.out.own (fun j hj => ?_), HS8.out.ok, HS8.out.fresh, ((HS8.out.below.setCell (p := ⟨_, 0, none⟩) (by simp) _).setCell (p := ⟨_, 1, none⟩) (by simp) _).setCell (p := ⟨_, 2, none⟩) (by simp) _⟩
          have hj1 : j ≠ w.heap.size := fun e => hne (e ▸ hj)
          rw [Below.heap_setCell _ _ _ _ hj1, Below.heap_setCell _ _ _ _ hj1, Below.heap_setCell _ _ _ _ hj1]
        have hb9 : (((w8.setCell ⟨w.heap.size, 0, none⟩ (.int .i64 (z1 : Int))).setCell ⟨w.heap.size, 1, none⟩ (.int .i64 (z2 : Int))).setCell ⟨w.heap.size, 2, none⟩ (.slice qa na ca)).heap[w.heap.size]? = some (.cells #[.int .i64 (z1 : Int), .int .i64 (z2 : Int), .slice qa na ca] 28 (0, 0)) :=
          Joins.block_setCell (Joins.block_setCell (Joins.block_setCell O8.out _) _) _
        have y0 := (Joins.cell_of_block hb9 0).trans (rfl : _ = some _)
        have y1 := (Joins.cell_of_block hb9 1).trans (rfl : _ = some _)
        have y2 := (Joins.cell_of_block hb9 2).trans (rfl : _ = some _)
        clear hb9 hne O8 HS8
        go_wp2_with fail
        obtain ⟨-, r1, r2, r3⟩ := HF.out.rd
        refine bodyPost_ret (v := .tuple #[.agg #[.int .i64 (z1 : Int), .int .i64 (z2 : Int), .slice qa na ca], .int .i64 0]) (by simp [results, Tryd.results23, go_sem, y0, y1, y2]) rfl (GetP.some HLN.out HF.out.below (HTold.out (by simp)) r1 r2 r3)
end Go.Proofs.YtebeacejlkiglaaDoor
namespace Go.Proofs.YtebeacejlkiglaaDoor
set_option maxRecDepth 100000
open Go.RowKit

set_option maxHeartbeats 16000000 in
theorem refGet_any {w : World} {v : Value} {xs : List Int} (hr : Rd w v xs) (hx : Bytes xs) (hl : xs.length ≤ 140737488355328) :
    Calls Tryd.prog 24 #[v] w (GetP xs w) := by
  obtain ⟨qv, cv, rfl⟩ := hr.len
  have HX := Lib.hid hx
  have b0 : Below w.heap.size w (w.alloc (.cells #[.int .i64 0, .int .i64 0, .slice none 0 0] 32)) := (Below.refl _ _).alloc (Nat.le_refl _) _
  have HO := Lib.hid (heap_alloc_new w (.cells #[.int .i64 0, .int .i64 0, .slice none 0 0] 32))
  have KN := Lib.hid (rdNew_any (hr.on b0) hl)
  have B0 := Lib.hid b0
  clear hr hx b0
  go_enter Tryd.func24, Tryd.ntmps24
  go_wp2_with fail
  generalize w.alloc (.cells #[.int .i64 0, .int .i64 0, .slice none 0 0] 32) = w0 at *
  refine KN.out.mono ?_
  rintro e w1 ⟨p, v1, rfl, hV, hp, hb1, hv1⟩
  have hw0 : Hid (w.heap.size < w0.heap.size) := (Array.getElem?_eq_some_iff.1 HO.out).1
  have HO1 := Lib.hid (blk_onB2 HO.out hb1)
  have B1 := Lib.hid (B0.out.trans (hb1.mono B0.out.size))
  have hwp : w.heap.size < p := by have := hw0.out; omega
  have KF := Lib.hid (From_any' B1.out (by omega) hV HX.out)
  clear hV hb1 KN HO B0 hv1 hp hw0
  go_wp2_with fail
  refine KF.out.mono ?_
  rintro e w2 ⟨z1, z2, z3, qa, na, ca, acc, f, mm, rfl, hs2, hln0, hn40, hd2, hc2, hN, hTT⟩
  have b3 : Below w2.heap.size w2 (w2.alloc (.cells #[.int .i64 (z1 : Int), .int .i64 (z2 : Int), .slice qa na ca] 32)) := (Below.refl _ _).alloc (Nat.le_refl _) _
  have HNN := Lib.hid hN
  have HTT := Lib.hid hTT
  have HLN0 := Lib.hid hln0
  have HS3 := Lib.hid (hs2.on b3)
  have HD3 := Lib.hid (hd2.on b3)
  have HO3 : Hid ((w2.alloc (.cells #[.int .i64 (z1 : Int), .int .i64 (z2 : Int), .slice qa na ca] 32)).heap[w.heap.size]? = some (.cells #[.int .i64 0, .int .i64 0, .slice none 0 0] 32 (0, 0))) := blk_onB2 (show w2.heap[w.heap.size]? = _ by rw [hc2.block _ (Array.getElem?_eq_some_iff.1 HO1.out).1 (by simp; omega)]; exact HO1.out) b3
  have HB3 := Lib.hid (heap_alloc_new w2 (.cells #[.int .i64 (z1 : Int), .int .i64 (z2 : Int), .slice qa na ca] 32))
  clear hN hTT hln0 hs2 hd2 hc2 b3 KF B1 HO1
  -- where Get answers none
  have OUTN : ∀ W : World, W.heap[w.heap.size]? = some (.cells #[.int .i64 0, .int .i64 0, .slice none 0 0] 32 (0, 0)) → Below w.heap.size w W → Below w.heap.size w (((W.setCell ⟨w.heap.size, 0, none⟩ (.int .i64 0)).setCell ⟨w.heap.size, 1, none⟩ (.int .i64 0)).setCell ⟨w.heap.size, 2, none⟩ (.slice none 0 0)) ∧ (((W.setCell ⟨w.heap.size, 0, none⟩ (.int .i64 0)).setCell ⟨w.heap.size, 1, none⟩ (.int .i64 0)).setCell ⟨w.heap.size, 2, none⟩ (.slice none 0 0)).heap[w.heap.size]? = some (.cells #[.int .i64 0, .int .i64 0, .slice none 0 0] 32 (0, 0)) := fun W h1 h2 =>
    ⟨((h2.setCell (p := ⟨_, 0, none⟩) (by simp) _).setCell (p := ⟨_, 1, none⟩) (by simp) _).setCell (p := ⟨_, 2, none⟩) (by simp) _, Joins.block_setCell (Joins.block_setCell (Joins.block_setCell h1 _) _) _⟩
  have HON := Lib.hid OUTN
  clear OUTN
  go_wp2_with fail
  generalize (w2.alloc (.cells #[.int .i64 (z1 : Int), .int .i64 (z2 : Int), .slice qa na ca] 32)) = w3 at *
  generalize w2.heap.size = bp at *
  refine (rdDone_st HD3.out).mono ?_
  rintro e w7 ⟨d, m', rfl, rfl, hd⟩
  have O7 : Hid ((w3.drewN m').heap[w.heap.size]? = some (.cells #[.int .i64 0, .int .i64 0, .slice none 0 0] 32 (0, 0))) := HO3.out
  have BW7 := Lib.hid (below_drewN HS3.out.below m')
  by_cases hd0 : d = 0
  case neg =>
    have hd1 : (d == 0) = false := by simpa using hd0
    have HR : Hid (∀ p c Ss, ¬ Told xs p c Ss) := fun p' c' Ss ht => by
      cases hf : f with
      | true => exact HTT.out hf p' c' Ss ht
      | false =>
        obtain ⟨n1, n2, n3, hm, hle, hacc⟩ := HNN.out hf
        have l1 := ht.nums.1
        have n3' := ht.nums.2.2.2.1
        exact hd0 (hd.2 ⟨hf, by omega⟩)
    obtain ⟨BN, ON⟩ := HON.out _ O7.out BW7.out
    have y0 := (Joins.cell_of_block ON 0).trans (rfl : _ = some _)
    have y1 := (Joins.cell_of_block ON 1).trans (rfl : _ = some _)
    have y2 := (Joins.cell_of_block ON 2).trans (rfl : _ = some _)
    have x0 := (Joins.cell_of_block O7.out 0).trans (rfl : _ = some _)
    have x1 := (Joins.cell_of_block O7.out 1).trans (rfl : _ = some _)
    have x2 := (Joins.cell_of_block O7.out 2).trans (rfl : _ = some _)
    have k0 := Joins.unfrozen_of_block O7.out 0
    have k1 := Joins.unfrozen_of_block O7.out 1
    have k2 := Joins.unfrozen_of_block O7.out 2
    have HBN := Lib.hid BN
    clear hd BN ON HON HNN HTT
    go_wp2_with fail
    refine bodyPost_ret (v := .tuple #[pf0, .int .i64 21]) (by simp [results, Tryd.results24, go_sem, y0, y1, y2, pf0]) rfl (GetP.none HBN.out HR.out)
  subst hd0
  obtain ⟨hff, hpos⟩ := hd.1 rfl
  obtain ⟨n1, n2, n3, hm, hle, hacc⟩ := HNN.out hff
  have RB := refRight_any (w := w3.drewN m') (P := (z1 : Int)) (C := (z2 : Int)) (q := qa) (n := na) (k := ca) (by unfold maxLen; omega)
  have P7 : Hid ((w3.drewN m').heap[bp]? = some (.cells #[.int .i64 (z1 : Int), .int .i64 (z2 : Int), .slice qa na ca] 32 (0, 0))) := HB3.out
  have hln := HLN0.out
  have hc0 := (Joins.cell_of_block P7.out 0).trans (rfl : _ = some _)
  have hc1 := (Joins.cell_of_block P7.out 1).trans (rfl : _ = some _)
  have hc2 := (Joins.cell_of_block P7.out 2).trans (rfl : _ = some _)
  have HS7 : Hid (HsS w (w3.drewN m') (.slice qa na ca) acc) := Lib.hid ⟨HS3.out.own, HS3.out.ok, HS3.out.fresh, BW7.out⟩
  have HTold : Hid (okPf (z1 : Int) (z2 : Int) na = true → Told xs z1 z2 acc) := fun hok => by
    refine ⟨HS3.out.ok, by rw [hln] at hok; exact hok, ?_⟩
    have := pfB_of HX.out (n := z3) (by omega) n3
    rw [n1, n2, ← hacc] at this
    exact this
  have HNot : Hid (okPf (z1 : Int) (z2 : Int) na = false → ∀ p c Ss, ¬ Told xs p c Ss) := fun hok p' c' Ss ht => by
    have hcl : acc.length = z3 := by rw [hacc, chunks_len]
    obtain ⟨l, a1, a2, a3, a4⟩ := ht.nums
    have e1 : p' = z1 := by omega
    have e2 : c' = z2 := by omega
    have e3 : Ss.length = na := by omega
    have := ht.2.1
    rw [e1, e2, e3, hok] at this
    simp at this
  obtain ⟨ok, hokv⟩ : ∃ ok, okPf (z1 : Int) (z2 : Int) na = ok := ⟨_, rfl⟩
  rw [hokv] at RB HTold HNot
  have KRB := Lib.hid RB
  have HLN := Lib.hid hln
  clear hd hokv RB hacc hln n1 n2 n3 hm hle HNN HTT
  go_wp2_with fail
  refine KRB.out.mono ?_
  rintro e w8 ⟨rfl, hb8⟩
  have O8 := Lib.hid (blk_onB2 O7.out hb8)
  have P8 := Lib.hid (blk_onB2 P7.out hb8)
  have HS8 := Lib.hid (HS7.out.on hb8)
  have BW8 := Lib.hid (BW7.out.trans (hb8.mono BW7.out.size))
  have x0 := (Joins.cell_of_block O8.out 0).trans (rfl : _ = some _)
  have x1 := (Joins.cell_of_block O8.out 1).trans (rfl : _ = some _)
  have x2 := (Joins.cell_of_block O8.out 2).trans (rfl : _ = some _)
  have k0 := Joins.unfrozen_of_block O8.out 0
  have k1 := Joins.unfrozen_of_block O8.out 1
  have k2 := Joins.unfrozen_of_block O8.out 2
  clear hb8 KRB hc0 hc1 hc2 O7 P7 HS7 BW7
  cases ok with
  | false =>
    obtain ⟨BN, ON⟩ := HON.out _ O8.out BW8.out
    have y0 := (Joins.cell_of_block ON 0).trans (rfl : _ = some _)
    have y1 := (Joins.cell_of_block ON 1).trans (rfl : _ = some _)
    have y2 := (Joins.cell_of_block ON 2).trans (rfl : _ = some _)
    have HBN := Lib.hid BN
    clear BN ON HON
    go_wp2_with fail
    refine bodyPost_ret (v := .tuple #[pf0, .int .i64 21]) (by simp [results, Tryd.results24, go_sem, y0, y1, y2, pf0]) rfl (GetP.none HBN.out (HNot.out (by simp)))
  | true =>
    have c0 := (Joins.cell_of_block P8.out 0).trans (rfl : _ = some _)
    have c1 := (Joins.cell_of_block P8.out 1).trans (rfl : _ = some _)
    have c2' := (Joins.cell_of_block P8.out 2).trans (rfl : _ = some _)
    have hne : (Value.slice qa na ca).ownBlock ≠ some w.heap.size := own_ne HS8.out.own O8.out (by decide)
    have HF : Hid (HsS w (((w8.setCell ⟨w.heap.size, 0, none⟩ (.int .i64 (z1 : Int))).setCell ⟨w.heap.size, 1, none⟩ (.int .i64 (z2 : Int))).setCell ⟨w.heap.size, 2, none⟩ (.slice qa na ca)) (.slice qa na ca) acc) := by
      refine ⟨own_keep HS8.out.own (fun j hj => ?_), HS8.out.ok, HS8.out.fresh, ((HS8.out.below.setCell (p := ⟨_, 0, none⟩) (by simp) _).setCell (p := ⟨_, 1, none⟩) (by simp) _).setCell (p := ⟨_, 2, none⟩) (by simp) _⟩
      have hj1 : j ≠ w.heap.size := fun e => hne (e ▸ hj)
      rw [Below.heap_setCell _ _ _ _ hj1, Below.heap_setCell _ _ _ _ hj1, Below.heap_setCell _ _ _ _ hj1]
    have hb9 : (((w8.setCell ⟨w.heap.size, 0, none⟩ (.int .i64 (z1 : Int))).setCell ⟨w.heap.size, 1, none⟩ (.int .i64 (z2 : Int))).setCell ⟨w.heap.size, 2, none⟩ (.slice qa na ca)).heap[w.heap.size]? = some (.cells #[.int .i64 (z1 : Int), .int .i64 (z2 : Int), .slice qa na ca] 32 (0, 0)) :=
      Joins.block_setCell (Joins.block_setCell (Joins.block_setCell O8.out _) _) _
    have y0 := (Joins.cell_of_block hb9 0).trans (rfl : _ = some _)
    have y1 := (Joins.cell_of_block hb9 1).trans (rfl : _ = some _)
    have y2 := (Joins.cell_of_block hb9 2).trans (rfl : _ = some _)
    clear hb9 hne O8 HS8
    go_wp2_with fail
    obtain ⟨-, r1, r2, r3⟩ := HF.out.rd
    refine bodyPost_ret (v := .tuple #[.agg #[.int .i64 (z1 : Int), .int .i64 (z2 : Int), .slice qa na ca], .int .i64 0]) (by simp [results, Tryd.results24, go_sem, y0, y1, y2]) rfl (GetP.some HLN.out HF.out.below (HTold.out (by simp)) r1 r2 r3)
end Go.Proofs.YtebeacejlkiglaaDoor
namespace Go.Proofs.YtebeacejlkiglaaDoor
set_option maxRecDepth 100000
open Go.RowKit

theorem row_rd {w : World} {b o : Nat} {F : List Int} (h : rowOf w b o 32 = hc F) (hF : F.length = 32) : Rd w (.slice (some ⟨b, o, none⟩) 32 32) F := by
  refine ⟨_, 32, by rw [hF], .inr ⟨b, o, rfl, fun i hi => ?_⟩⟩
  exact range_rowOf w b o 32 i _ (by rw [h]; simp [hc, List.getD, hi])
theorem HsOk.take {Ss : List (List Int)} (h : HsOk Ss) (i : Nat) : HsOk (Ss.take i) := fun F hF => h F (List.mem_of_mem_take hF)

set_option maxHeartbeats 4000000 in
theorem refPut_no {w : World} {P C : Int} {q : Option Addr} {n k : Nat} (hn : n ≤ maxLen) (hok : okPf P C n = false) :
    Calls Tryd.prog 22 #[.agg #[.int .i64 P, .int .i64 C, .slice q n k]] w fun e w' => e = .returned (.tuple #[.slice none 0 0, .int .i64 21]) ∧ Below w.heap.size w w' := by
  have HP := Lib.hid (heap_alloc_new w (.cells #[.int .i64 P, .int .i64 C, .slice q n k] 32))
  have B0 := Lib.hid ((Below.refl w.heap.size w).alloc (Nat.le_refl _) (.cells #[.int .i64 P, .int .i64 C, .slice q n k] 32))
  have c0 := (Joins.cell_of_block HP.out 0).trans (rfl : _ = some _)
  have c1 := (Joins.cell_of_block HP.out 1).trans (rfl : _ = some _)
  have c2 := (Joins.cell_of_block HP.out 2).trans (rfl : _ = some _)
  have KR := Lib.hid (refRight_any (w := w.alloc (.cells #[.int .i64 P, .int .i64 C, .slice q n k] 32)) (P := P) (C := C) (q := q) (k := k) hn)
  rw [hok] at KR
  go_enter Tryd.func22, Tryd.ntmps22
  go_wp2_with fail
  refine KR.out.mono ?_
  rintro e w1 ⟨rfl, hb1⟩
  have B1 := Lib.hid (B0.out.trans (hb1.mono B0.out.size))
  clear hb1 KR c0 c1 c2 B0 HP
  go_wp2_with fail
  refine bodyPost_ret (v := .tuple #[.slice none 0 0, .int .i64 21]) (by simp [results, Tryd.results22, go_sem]) rfl ⟨rfl, B1.out⟩

set_option maxHeartbeats 8000000 in
theorem refPut_yes {w : World} {p0 k0 : Nat} {q : Option Addr} {k : Nat} {Ss : List (List Int)} (hs : RdHs w q Ss) (ok : HsOk Ss) (hk0 : p0 < k0) (hk : k0 ≤ 65536) (hsd : Ss.length = sd 17 p0 k0) :
    Calls Tryd.prog 22 #[.agg #[.int .i64 (p0 : Int), .int .i64 (k0 : Int), .slice q Ss.length k]] w fun e w' => ∃ u, e = .returned (.tuple #[u, .int .i64 0]) ∧ BuS w w' u (pfB p0 k0 Ss) := by
  obtain ⟨i0, hi, hz0, hz1, hz2⟩ := info_parts Tryd.infoU8
  replace hi := Lib.hid hi
  replace hz0 := Lib.hid hz0
  replace hz1 := Lib.hid hz1
  replace hz2 := Lib.hid hz2
  have h17 : Ss.length ≤ 17 := by rw [hsd]; exact sd_le _ _ _
  have hok : okPf (p0 : Int) (k0 : Int) Ss.length = true := decide_eq_true (by rw [Int.toNat_natCast, Int.toNat_natCast]; exact ⟨by omega, by omega, by omega, hsd⟩)
  have HP := Lib.hid (heap_alloc_new w (.cells #[.int .i64 (p0 : Int), .int .i64 (k0 : Int), .slice q Ss.length k] 32))
  have B0 := Lib.hid ((Below.refl w.heap.size w).alloc (Nat.le_refl _) (.cells #[.int .i64 (p0 : Int), .int .i64 (k0 : Int), .slice q Ss.length k] 32))
  have c0 := (Joins.cell_of_block HP.out 0).trans (rfl : _ = some _)
  have c1 := (Joins.cell_of_block HP.out 1).trans (rfl : _ = some _)
  have c2 := (Joins.cell_of_block HP.out 2).trans (rfl : _ = some _)
  have KR := Lib.hid (refRight_any (w := w.alloc (.cells #[.int .i64 (p0 : Int), .int .i64 (k0 : Int), .slice q Ss.length k] 32)) (P := (p0 : Int)) (C := (k0 : Int)) (q := q) (n := Ss.length) (k := k) (by unfold maxLen; omega))
  rw [hok] at KR
  have HS := Lib.hid hs
  have HOK := Lib.hid ok
  have HSl : Hid (∀ i, i < Ss.length → (Ss.getD i []).length = 32) := fun i hi => (ok.get i hi).1
  have u0 : IntKind.u64.wrap (p0 : Int) = (p0 : Int) := by rw [IntKind.wrap_u64]; omega
  have u1 : IntKind.u64.wrap (k0 : Int) = (k0 : Int) := by rw [IntKind.wrap_u64]; omega
  have u2 : IntKind.u64.wrap (Ss.length : Int) = (Ss.length : Int) := by rw [IntKind.wrap_u64]; omega
  clear hs ok hok hsd
  go_enter Tryd.func22, Tryd.ntmps22
  go_wp2_with fail
  refine KR.out.mono ?_
  rintro e w1 ⟨rfl, hb1⟩
  have HP1 := Lib.hid (blk_onB2 HP.out hb1)
  have B1 := Lib.hid (B0.out.trans (hb1.mono B0.out.size))
  clear hb1 KR c0 c1 c2 B0 HP
  go_wp2_with fail
  refine wp_region_held_drew (S := fun W => W.heap[w.heap.size]? = some (.cells #[.int .i64 (p0 : Int), .int .i64 (k0 : Int), .slice q Ss.length k] 32 (0, 0))) (by kernel_rfl) (HP1.out) (fun h0 => ?_)
  refine wpAnyH_take (i := 0) (v := ?_) (by rw [List.getElem?_toArray]; rfl) (by kernel_rfl) (by kernel_rfl) (by kernel_rfl) (by exact fun _ _ _ h => h) (Or.inl ⟨by rfl, ?_⟩) h0 ?_
  rotate_left
  · intro W hW
    go_simp
    all_goals with_reducible rfl
  try simp only [Act.put, List.setIfInBounds_toArray, List.set_cons_zero, List.set_cons_succ]
  refine wpAnyH_take (i := 1) (v := ?_) (by rw [List.getElem?_toArray]; rfl) (by kernel_rfl) (by kernel_rfl) (by kernel_rfl) (by exact fun _ _ _ h => h) (Or.inl ⟨by rfl, ?_⟩) h0 ?_
  rotate_left
  · intro W hW
    have cc := (Joins.cell_of_block hW 0).trans (rfl : _ = some _)
    go_simp
    all_goals with_reducible rfl
  try simp only [Act.put, List.setIfInBounds_toArray, List.set_cons_zero, List.set_cons_succ]
  refine wpAnyH_take (i := 2) (v := ?_) (by rw [List.getElem?_toArray]; rfl) (by kernel_rfl) (by kernel_rfl) (by kernel_rfl) (by exact fun _ _ _ h => h) (Or.inl ⟨by rfl, ?_⟩) h0 ?_
  rotate_left
  · intro W hW
    go_simp
    all_goals with_reducible rfl
  try simp only [Act.put, List.setIfInBounds_toArray, List.set_cons_zero, List.set_cons_succ]
  refine wpAnyH_take (i := 4) (v := ?_) (by rw [List.getElem?_toArray]; rfl) (by kernel_rfl) (by kernel_rfl) (by kernel_rfl) (by exact fun _ _ _ h => h) (Or.inl ⟨by rfl, ?_⟩) h0 ?_
  rotate_left
  · intro W hW
    go_simp
    all_goals with_reducible rfl
  try simp only [Act.put, List.setIfInBounds_toArray, List.set_cons_zero, List.set_cons_succ]
  refine wpAnyH_take (i := 5) (v := ?_) (by rw [List.getElem?_toArray]; rfl) (by kernel_rfl) (by kernel_rfl) (by kernel_rfl) (by exact fun _ _ _ h => h) (Or.inl ⟨by rfl, ?_⟩) h0 ?_
  rotate_left
  · intro W hW
    have cc := (Joins.cell_of_block hW 1).trans (rfl : _ = some _)
    go_simp
    all_goals with_reducible rfl
  try simp only [Act.put, List.setIfInBounds_toArray, List.set_cons_zero, List.set_cons_succ]
  refine wpAnyH_take (i := 6) (v := ?_) (by rw [List.getElem?_toArray]; rfl) (by kernel_rfl) (by kernel_rfl) (by kernel_rfl) (by exact fun _ _ _ h => h) (Or.inl ⟨by rfl, ?_⟩) h0 ?_
  rotate_left
  · intro W hW
    go_simp
    all_goals with_reducible rfl
  try simp only [Act.put, List.setIfInBounds_toArray, List.set_cons_zero, List.set_cons_succ]
  refine wpAnyH_ready (rs := [3]) (by kernel_rfl) (by simp) ?_
  refine AllReadyH.cons (by rw [List.getElem?_toArray]; rfl) (fun K hK => ?_) AllReadyH.nil
  rw [if_pos (by rfl)]
  go_wp2_with fail
  refine (refUint_any (p0 : Int) w1.drew).mono ?_
  rintro e w3 ⟨u, rfl, hN⟩
  obtain ⟨qu, cu, rfl⟩ := hN.rd.len
  have U3 : Hid (BuS w w3 (.slice qu 8 cu) (be8 p0)) := Lib.hid ⟨hN.own, fun g hg => Nat.le_trans B1.out.drew.size (hN.fresh g hg), B1.out.drew.trans (hN.below.mono B1.out.drew.size)⟩
  have P3 : Hid (w3.heap[w.heap.size]? = some (.cells #[.int .i64 (p0 : Int), .int .i64 (k0 : Int), .slice q Ss.length k] 32 (0, 0))) := Lib.hid (blk_onB2 (show w1.drew.heap[w.heap.size]? = some (.cells #[.int .i64 (p0 : Int), .int .i64 (k0 : Int), .slice q Ss.length k] 32 (0, 0)) from HP1.out) hN.below)
  simp only [be8_len]
  clear hN
  go_wp2_with fail
  refine hK.out _ _ (P3.out) (fun h3 => ?_)
  clear hK K
  try simp only [Act.put, List.setIfInBounds_toArray, List.set_cons_zero, List.set_cons_succ]
  refine wpAnyH_ready (rs := [7]) (by kernel_rfl) (by simp) ?_
  refine AllReadyH.cons (by rw [List.getElem?_toArray]; rfl) (fun K hK => ?_) AllReadyH.nil
  rw [if_pos (by rfl)]
  go_wp2_with fail
  refine (refUint_any (k0 : Int) w3).mono ?_
  rintro e w4 ⟨u, rfl, hN⟩
  obtain ⟨qv, cv, rfl⟩ := hN.rd.len
  have U4 := Lib.hid (U3.out.on hN.below)
  have V4 : Hid (Rd w4 (.slice qv 8 cv) (be8 k0)) := Lib.hid hN.rd
  have P4 : Hid (w4.heap[w.heap.size]? = some (.cells #[.int .i64 (p0 : Int), .int .i64 (k0 : Int), .slice q Ss.length k] 32 (0, 0))) := Lib.hid (blk_onB2 P3.out hN.below)
  simp only [be8_len]
  clear hN U3
  go_wp2_with fail
  refine hK.out _ _ (P4.out) (fun h4 => ?_)
  clear hK K
  try simp only [Act.put, List.setIfInBounds_toArray, List.set_cons_zero, List.set_cons_succ]
  refine wpAnyH_ready (rs := [8]) (by kernel_rfl) (by simp) ?_
  refine AllReadyH.cons (by rw [List.getElem?_toArray]; rfl) (fun K hK => ?_) AllReadyH.nil
  rw [if_pos (by rfl)]
  have OW : w4.ownsRow 0 5 1 (.slice qu 8 cu) 8 (bc (be8 p0)) := U4.out.own
  refine wp_append_row _ _ rfl Tryd.underlying42 hi.out hz0.out hz1.out hz2.out rfl OW (V4.out.src (P := Tryd.prog) Tryd.underlying42) (by rw [be8_len]; unfold maxLen; omega) (by rw [be8_len]; omega) ?_
  intro q6 k6 w6 own6' grow6' fr6'
  have grow6 : w4.grownBy w6 (Value.slice qu 8 cu).ownBlock := grow6'
  have U6 : Hid (BuS w w6 (.slice q6 16 k6) (be8 p0 ++ be8 k0)) := U4.out.grow (ys := be8 k0) (by rw [be8_len]) own6' grow6 fr6'
  have P6 : Hid (w6.heap[w.heap.size]? = some (.cells #[.int .i64 (p0 : Int), .int .i64 (k0 : Int), .slice q Ss.length k] 32 (0, 0))) := by
    have hc : Chg w4 w6 (Value.slice qu 8 cu).ownBlock.toList := Chg.grown grow6 (fun g hg => by simp [hg])
    show _ = _
    rw [hc.block _ (Array.getElem?_eq_some_iff.1 P4.out).1 (fun hm => own_ne OW P4.out (by decide) (by simpa using hm))]
    exact P4.out
  try simp only [be8_len]
  clear own6' grow6' fr6' grow6 OW U4 V4
  refine hK.out _ _ (P6.out) (fun h6 => ?_)
  clear hK K
  try simp only [Act.put, List.setIfInBounds_toArray, List.set_cons_zero, List.set_cons_succ]
  refine wpAnyH_take (i := 9) (v := ?_) (by rw [List.getElem?_toArray]; rfl) (by kernel_rfl) (by kernel_rfl) (by kernel_rfl) (by exact fun _ _ _ h => h) (Or.inl ⟨by rfl, ?_⟩) h6 ?_
  rotate_left
  · intro W hW
    go_simp
    all_goals with_reducible rfl
  try simp only [Act.put, List.setIfInBounds_toArray, List.set_cons_zero, List.set_cons_succ]
  refine wpAnyH_done (by kernel_rfl) ?_ _
  clear h3 h4 h6 h0 P3 P4 HP1 B1
  have c2 := (Joins.cell_of_block P6.out 2).trans (rfl : _ = some _)
  go_wp2_with fail
  refine (refUint_any (Ss.length : Int) w6).mono ?_
  rintro e w7 ⟨u, rfl, hN⟩
  obtain ⟨qv, cv, rfl⟩ := hN.rd.len
  have U7 := Lib.hid (U6.out.on hN.below)
  have V7 : Hid (Rd w7 (.slice qv 8 cv) (be8 Ss.length)) := Lib.hid hN.rd
  have P7 : Hid (w7.heap[w.heap.size]? = some (.cells #[.int .i64 (p0 : Int), .int .i64 (k0 : Int), .slice q Ss.length k] 32 (0, 0))) := Lib.hid (blk_onB2 P6.out hN.below)
  have OW : w7.ownsRow 0 5 1 (.slice q6 16 k6) 16 (bc (be8 p0 ++ be8 k0)) := U7.out.own
  simp only [be8_len]
  clear hN U6 P6 c2
  go_wp2_with (at_builtin; refine wpList_append_row rfl _ _ rfl Tryd.underlying42 hi.out hz0.out hz1.out hz2.out rfl OW (V7.out.src (P := Tryd.prog) Tryd.underlying42) (by rw [be8_len]; unfold maxLen; omega) (by rw [be8_len]; omega) ?_)
  intro q8 k8 w8 own8 grow8' fr8
  have grow8 : w7.grownBy w8 (Value.slice q6 16 k6).ownBlock := grow8'
  have U8 : Hid (BuS w w8 (.slice q8 24 k8) ((be8 p0 ++ be8 k0) ++ be8 Ss.length)) := U7.out.grow (ys := be8 Ss.length) (by rw [be8_len]) own8 grow8 fr8
  have P8 : Hid (w8.heap[w.heap.size]? = some (.cells #[.int .i64 (p0 : Int), .int .i64 (k0 : Int), .slice q Ss.length k] 32 (0, 0))) := by
    have hc : Chg w7 w8 (Value.slice q6 16 k6).ownBlock.toList := Chg.grown grow8 (fun g hg => by simp [hg])
    show _ = _
    rw [hc.block _ (Array.getElem?_eq_some_iff.1 P7.out).1 (fun hm => own_ne OW P7.out (by decide) (by simpa using hm))]
    exact P7.out
  try simp only [be8_len]
  clear own8 grow8 grow8' fr8 OW U7 V7 P7
  obtain ⟨X, hX⟩ : ∃ X, ((be8 (p0 : Int) ++ be8 (k0 : Int)) ++ be8 (Ss.length : Int)) = X := ⟨_, rfl⟩
  have lX : X.length = 24 := by rw [← hX]; simp [be8]
  have HXe : Hid (pfB p0 k0 Ss = X ++ Ss.flatten) := by show _ = _; rw [← hX]; unfold pfB; simp only [List.append_assoc]
  rw [hX] at U8
  have U80 : Hid (BuS w w8 (.slice q8 (24 + 32 * 0) k8) (X ++ (Ss.take 0).flatten)) := by
    show BuS _ _ _ _
    rw [List.take_zero, List.flatten_nil, List.append_nil]
    exact U8.out
  clear hX U8
  go_wp2_with fail
  go_loopw [4, 5] (fun ov iv wr => ∃ (i m : Nat) (qa : Option Addr) (ca : Nat), iv = .int .i64 i ∧ ov = .slice qa m ca ∧ i ≤ Ss.length ∧ m ≤ 24 + 32 * i ∧ Hid (m = 24 + 32 * i) ∧ Hid (BuS w wr (.slice qa m ca) (X ++ (Ss.take i).flatten)) ∧ Hid (wr.heap[w.heap.size]? = some (.cells #[.int .i64 (p0 : Int), .int .i64 (k0 : Int), .slice q Ss.length k] 32 (0, 0)))) (fun _ iv _ => Ss.length - (intOf iv).toNat)
  case atStart => exact ⟨0, 24, q8, k8, rfl, rfl, by omega, by omega, Lib.hid rfl, U80, P8⟩
  case round =>
    clear U80 P8
    obtain ⟨i, m, qa, ca, rfl, rfl, hil, hm, HM, hU, hP⟩ := hrel
    have c2 := (Joins.cell_of_block hP.out 2).trans (rfl : _ = some _)
    by_cases hlt : i < Ss.length
    · obtain ⟨b, off, hq, hx⟩ := (HS.out.on HSl.out hU.out.below).resolve_left (fun e => by rw [e] at hlt; simp at hlt)
      have HRD := Lib.hid (row_rd (hx i hlt) (HSl.out i hlt))
      have hl32 := HSl.out i hlt
      have hfl := flat_len (HOK.out.take i)
      rw [List.length_take] at hfl
      have OW : wr.ownsRow 0 5 1 (.slice qa m ca) m (bc (X ++ (Ss.take i).flatten)) := by
        have := hU.out.own
        rw [List.length_append, lX, hfl, show 24 + min i Ss.length * 32 = m by rw [HM.out]; omega] at this
        exact this
      subst hq
      clear hx hfl
      obtain ⟨F, hF⟩ : ∃ F, Ss.getD i [] = F := ⟨_, rfl⟩
      have HF := Lib.hid hF
      rw [hF] at HRD hl32
      clear hF
      go_wp2_with (at_builtin; refine wpList_append_row rfl _ _ rfl Tryd.underlying42 hi.out hz0.out hz1.out hz2.out rfl OW (HRD.out.src (P := Tryd.prog) Tryd.underlying42) (by rw [hl32]; unfold maxLen; omega) (by rw [hl32]; omega) ?_)
      intro q9 k9 w9 own9 grow9' fr9
      have grow9 : wr.grownBy w9 (Value.slice qa m ca).ownBlock := grow9'
      have HN : Hid (BuS w w9 (.slice q9 (m + 32) k9) (X ++ (Ss.take (i + 1)).flatten)) := by
        have h1 := hU.out.grow (ys := F) hl32 (v' := .slice q9 (m + 32) k9) (by
          have e : (X ++ (Ss.take i).flatten).length = m := by
            have := OW.1; simpa using this
          rw [e]
          have := own9
          (try simp only [hl32] at this)
          exact this) grow9 (by have := fr9; (try simp only [hl32] at this); exact this)
        rw [hashes_take hlt, HF.out, ← List.append_assoc]
        exact h1
      have HP9 : Hid (w9.heap[w.heap.size]? = some (.cells #[.int .i64 (p0 : Int), .int .i64 (k0 : Int), .slice (some ⟨b, off, none⟩) Ss.length k] 32 (0, 0))) := by
        have hc : Chg wr w9 (Value.slice qa m ca).ownBlock.toList := Chg.grown grow9 (fun g hg => by simp [hg])
        show _ = _
        rw [hc.block _ (Array.getElem?_eq_some_iff.1 hP.out).1 (fun hm => own_ne OW hP.out (by decide) (by simpa using hm))]
        exact hP.out
      try simp only [hl32]
      have HM9 : Hid (m + 32 = 24 + 32 * (i + 1)) := by show _ = _; rw [HM.out]; omega
      clear own9 grow9 grow9' fr9 OW hU hP c2 HRD
      go_wp2_with fail
      go_roundw
      case rel => exact ⟨i + 1, m + 32, q9, k9, by go_num, rfl, by omega, by omega, HM9, HN, HP9⟩
      case measure => simp [intOf]; omega
    · obtain rfl : i = Ss.length := by omega
      have HE : Hid (BuS w wr (.slice qa m ca) (pfB p0 k0 Ss)) := by
        show BuS _ _ _ _
        rw [HXe.out]
        have := hU.out
        rw [List.take_length] at this
        exact this
      clear hU hP
      go_wp2_with fail
      refine bodyPost_ret (v := .tuple #[.slice qa m ca, .int .i64 0]) (by simp [results, Tryd.results22, go_sem]) rfl ⟨_, rfl, HE.out⟩
end Go.Proofs.YtebeacejlkiglaaDoor
