/-
  The hashes beside the way up.; The proof of a place, of the program.
-/
import Derived.Test.YtebeacejlkiglaaDoorMa1
import Derived.Test.YtebeacejlkiglaaDoorMa10
namespace Go.Proofs.YtebeacejlkiglaaDoor
set_option maxRecDepth 100000
open Go.RowKit

/-- The hashes beside the way up. -/
def pth : Nat → Nat → List (List Int) → List (List Int)
  | 0, _, _ => []
  | f + 1, p, Ss => if Ss.length ≤ 1 then [] else (if bes p < Ss.length then [Ss.getD (bes p) []] else []) ++ pth f (p / 2) (upL Ss)
theorem pth_ok : ∀ (f p : Nat) {Ss : List (List Int)}, HsOk Ss → HsOk (pth f p Ss)
  | 0, _, _, _ => HsOk.nil
  | f + 1, p, Ss, h => by
    unfold pth
    split
    · exact HsOk.nil
    · refine HsOk.append ?_ (pth_ok f (p / 2) (upL_ok h))
      split
      · rename_i h2
        exact HsOk.one (h.get _ h2).1 (h.get _ h2).2
      · exact HsOk.nil
theorem pth_len : ∀ (f p : Nat) (Ss : List (List Int)), p < Ss.length → Ss.length ≤ 2 ^ f → (pth f p Ss).length = sd f p Ss.length
  | 0, _, _, _, _ => rfl
  | f + 1, p, Ss, hp, h2 => by
    unfold pth sd
    by_cases h : Ss.length ≤ 1
    · rw [if_pos h, if_pos h]; rfl
    · rw [if_neg h, if_neg h, List.length_append]
      rw [Nat.pow_succ] at h2
      have ih := pth_len f (p / 2) (upL Ss) (by rw [upL_len]; omega) (by rw [upL_len]; omega)
      rw [upL_len] at ih
      rw [ih]
      split <;> simp <;> omega
/-- The way up from a place, with the hashes beside it, comes to the top. -/
theorem chk_pth : ∀ (f p : Nat) (Ss : List (List Int)), p < Ss.length → chk f p Ss.length (Ss.getD p []) (pth f p Ss) = tp f Ss ∨ Ss.length > 2 ^ f
  | 0, p, Ss, hp => by
    by_cases h : Ss.length ≤ 1
    · obtain rfl : p = 0 := by omega
      exact .inl rfl
    · exact .inr (by simp; omega)
  | f + 1, p, Ss, hp => by
    by_cases h2 : Ss.length > 2 ^ (f + 1)
    · exact .inr h2
    refine .inl ?_
    unfold pth tp chk
    by_cases h : Ss.length ≤ 1
    · rw [if_pos h, if_pos h]
      obtain rfl : p = 0 := by omega
      rfl
    · rw [if_neg h, if_neg h, if_neg h]
      rw [Nat.pow_succ] at h2
      have hu : (upL Ss).getD (p / 2) [] = upAt Ss (p / 2) := upL_get Ss (by omega)
      have ih := chk_pth f (p / 2) (upL Ss) (by rw [upL_len]; omega)
      rw [hu, upL_len] at ih
      have ih' := ih.resolve_right (by omega)
      by_cases hb : bes p < Ss.length
      · rw [if_pos hb, if_pos hb]
        simp only [List.cons_append, List.nil_append, List.getD_cons_zero, List.drop_succ_cons, List.drop_zero]
        rw [← ih']
        congr 1
        unfold upAt
        unfold bes at hb ⊢
        by_cases hp2 : p % 2 = 1
        · rw [if_pos hp2] at hb ⊢
          rw [if_pos hp2, if_pos (by omega), show 2 * (p / 2) = p - 1 by omega, show p - 1 + 1 = p by omega]
        · rw [if_neg hp2] at hb ⊢
          rw [if_neg hp2, if_pos (by omega), show 2 * (p / 2) = p by omega]
      · rw [if_neg hb, if_neg hb]
        rw [List.nil_append, ← ih']
        congr 1
        unfold upAt
        unfold bes at hb
        by_cases hp2 : p % 2 = 1
        · rw [if_pos hp2] at hb; omega
        · rw [if_neg hp2] at hb
          rw [if_neg (by omega), show 2 * (p / 2) = p by omega]

theorem RdHs.blk {w : World} {q : Option Addr} {Ss : List (List Int)} (h : RdHs w q Ss) (ok : HsOk Ss) (hne : Ss ≠ []) : ∃ b off, q = some ⟨b, off, none⟩ ∧ b < w.heap.size ∧ ∀ cs T fr, w.heap[b]? = some (.cells cs T fr) → 32 ≤ cs.size := by
  obtain ⟨b, off, e, hx⟩ := h.resolve_left hne
  have hp : 0 < Ss.length := List.length_pos_iff.2 hne
  have h2 : (rowOf w b (off + 0 * 32) 32).length = 32 := by rw [hx 0 hp, hc_len, (ok.get 0 hp).1]
  refine ⟨b, off, e, ?_, fun cs T fr hb => ?_⟩
  · unfold rowOf at h2
    cases hh : w.heap[b]? with
    | none => rw [hh] at h2; simp at h2
    | some x => exact (Array.getElem?_eq_some_iff.1 hh).1
  · rw [rowOf_block hb] at h2
    simp at h2
    omega
/-- Where the way up stands, with what it has noted. -/
structure PvS (w wr : World) (T : TypeId) (bp : Nat) (P C : Int) (v : Value) (acc : List (List Int)) (q : Option Addr) (Ss : List (List Int)) : Prop where
  out : wr.heap[w.heap.size]? = some (.cells #[.int .i64 0, .int .i64 0, .slice none 0 0] T (0, 0))
  blk : wr.heap[bp]? = some (.cells #[.int .i64 P, .int .i64 C, v] T (0, 0))
  hs : HsS w wr v acc
  rd : RdHs wr q Ss
  ok : HsOk Ss
  nb : Ss ≠ [] → ∀ a g, q = some a → v.ownBlock = some g → a.block ≠ g
theorem PvS.on {w wr w1 : World} {T : TypeId} {bp : Nat} {P C : Int} {v : Value} {acc : List (List Int)} {q q' : Option Addr} {Ss Ts : List (List Int)} (h : PvS w wr T bp P C v acc q Ss) (hb : Below wr.heap.size wr w1) (hr : RdHs w1 q' Ts) (ok : HsOk Ts) (hq : ∀ a, q' = some a → wr.heap.size ≤ a.block) : PvS w w1 T bp P C v acc q' Ts :=
  ⟨blk_onB2 h.out hb, blk_onB2 h.blk hb, h.hs.on hb, hr, ok, fun _ a g ha hg => by
    have h1 := hq a ha
    have h2 := own_lt h.hs.own hg
    omega⟩
theorem PvS.same {w wr w1 : World} {T : TypeId} {bp : Nat} {P C : Int} {v : Value} {acc : List (List Int)} {q : Option Addr} {Ss : List (List Int)} (h : PvS w wr T bp P C v acc q Ss) (hb : Below wr.heap.size wr w1) : PvS w w1 T bp P C v acc q Ss :=
  ⟨blk_onB2 h.out hb, blk_onB2 h.blk hb, h.hs.on hb, h.rd.on (fun i hi => (h.ok.get i hi).1) hb, h.ok, h.nb⟩
theorem PvS.grow {w w3 w6 : World} {T : TypeId} {bp : Nat} {P C : Int} {q6 : Option Addr} {n k6 : Nat} {v : Value} {acc : List (List Int)} {q : Option Addr} {Ss : List (List Int)} {A : List Int} (h : PvS w w3 T bp P C v acc q Ss) (hT : T ≠ 36) (hA : A.length = 32) (bA : Bytes A) (hbp : w.heap.size < bp) (hn : n = acc.length)
    (own : w6.ownsRow 0 36 32 (.slice q6 (n + 1) k6) (n + 1) (hcs acc ++ hcs [A])) (grow : w3.grownBy w6 v.ownBlock) (fr : (Value.slice q6 (n + 1) k6).ownBlock = v.ownBlock ∨ (Value.slice q6 (n + 1) k6).ownBlock = some w3.heap.size) :
    w6.heap[bp]? = some (.cells #[.int .i64 P, .int .i64 C, v] T (0, 0)) ∧ PvS w (w6.setCell ⟨bp, 2, none⟩ (.slice q6 (n + 1) k6)) T bp P C (.slice q6 (n + 1) k6) (acc ++ [A]) q Ss := by
  subst hn
  have hc : Chg w3 w6 v.ownBlock.toList := Chg.grown grow (fun g hg => by simp [hg])
  have e1 : w6.heap[bp]? = some (.cells #[.int .i64 P, .int .i64 C, v] T (0, 0)) := by
    rw [hc.block bp (Array.getElem?_eq_some_iff.1 h.blk).1 (fun hm => own_ne h.hs.own h.blk hT (by simpa using hm))]; exact h.blk
  have e2 : w6.heap[w.heap.size]? = some (.cells #[.int .i64 0, .int .i64 0, .slice none 0 0] T (0, 0)) := by
    rw [hc.block _ (Array.getElem?_eq_some_iff.1 h.out).1 (fun hm => own_ne h.hs.own h.out hT (by simpa using hm))]; exact h.out
  have h6 : HsS w w6 (.slice q6 (acc.length + 1) k6) (acc ++ [A]) := h.hs.grow (HsOk.one hA bA) rfl own grow fr
  have hne : (Value.slice q6 (acc.length + 1) k6).ownBlock ≠ some bp := own_ne own e1 hT
  have hl : ∀ i, i < Ss.length → (Ss.getD i []).length = 32 := fun i hi => (h.ok.get i hi).1
  have r6 : RdHs w6 q Ss := h.rd.chg hl hc (fun hne b off e hm => h.nb hne _ _ e (by simpa using hm) rfl)
  refine ⟨e1, ?_, ?_, ?_, ?_, h.ok, ?_⟩
  · rw [Below.heap_setCell _ _ _ _ (by simp; omega)]; exact e2
  · exact Joins.block_setCell e1 _
  · refine ⟨own_keep h6.own (fun j hj => ?_), h6.ok, h6.fresh, h6.below.setCell (p := ⟨bp, 2, none⟩) (by simp; omega) _⟩
    rw [Below.heap_setCell _ _ _ _ (fun (e : j = bp) => hne (e ▸ hj))]
  · refine r6.chg hl (S := [bp]) ((Chg.refl _ _).setCell (p := ⟨bp, 2, none⟩) (.inl (by simp)) _) (fun hne2 b off e hm => ?_)
    simp only [List.mem_singleton] at hm
    obtain ⟨b', off', e', h1, h2⟩ := r6.blk h.ok hne2
    rw [e] at e'
    simp only [Option.some.injEq, Addr.mk.injEq] at e'
    obtain ⟨rfl, rfl, -⟩ := e'
    rw [hm] at h2
    have := h2 _ _ _ e1
    simp at this
  · intro hne2 a g ha hg e
    rcases fr with e' | e'
    · rw [e'] at hg; exact h.nb hne2 a g ha hg e
    · rw [e'] at hg
      simp only [Option.some.injEq] at hg
      obtain ⟨b', off', e2', h1, -⟩ := h.rd.blk h.ok hne2
      rw [ha] at e2'
      simp only [Option.some.injEq] at e2'
      subst e2'
      simp at e
      omega
end Go.Proofs.YtebeacejlkiglaaDoor
namespace Go.Proofs.YtebeacejlkiglaaDoor
set_option maxRecDepth 100000
open Go.RowKit

set_option maxHeartbeats 16000000 in
theorem Prove_yes {w : World} {v : Value} {L : List (List Int)} {p0 : Nat} (hp : p0 < L.length) (hL : RdL w v L []) (bL : ∀ b ∈ L, Bytes b) (hn : L.length ≤ 65536) (hx : ∀ i, (L.getD i []).length ≤ 1000000) (hT : Tbl w) :
    Calls Tryd.prog 10 #[.int .i64 p0, v] w fun e w' => ∃ q k, e = .returned (.tuple #[.agg #[.int .i64 p0, .int .i64 L.length, .slice q (pth 17 p0 (lvN L L.length)).length k], .int .i64 0]) ∧ HsS w w' (.slice q (pth 17 p0 (lvN L L.length)).length k) (pth 17 p0 (lvN L L.length)) := by
  obtain ⟨i0, hi, hz0, hz1, hz2⟩ := info_parts Tryd.infoHs
  replace hi := Lib.hid hi
  replace hz0 := Lib.hid hz0
  replace hz1 := Lib.hid hz1
  replace hz2 := Lib.hid hz2
  obtain ⟨q, c, rfl⟩ : ∃ q c, v = .slice q L.length c := by obtain ⟨q, c, e, _⟩ := hL; exact ⟨q, c, e⟩
  have h1 := heap_alloc_new w (.cells #[.int .i64 0, .int .i64 0, .slice none 0 0] 28)
  have h2 := heap_alloc_new (w.alloc (.cells #[.int .i64 0, .int .i64 0, .slice none 0 0] 28)) (.cells #[.int .i64 p0, .int .i64 L.length, .slice none 0 0] 28)
  rw [show (w.alloc (.cells #[.int .i64 0, .int .i64 0, .slice none 0 0] 28)).heap.size = w.heap.size + 1 by simp] at h2
  have b1 : Below w.heap.size w (w.alloc (.cells #[.int .i64 0, .int .i64 0, .slice none 0 0] 28)) := (Below.refl _ _).alloc (Nat.le_refl _) _
  have b2 : Below (w.alloc (.cells #[.int .i64 0, .int .i64 0, .slice none 0 0] 28)).heap.size (w.alloc (.cells #[.int .i64 0, .int .i64 0, .slice none 0 0] 28)) ((w.alloc (.cells #[.int .i64 0, .int .i64 0, .slice none 0 0] 28)).alloc (.cells #[.int .i64 p0, .int .i64 L.length, .slice none 0 0] 28)) := (Below.refl _ _).alloc (Nat.le_refl _) _
  have B0 := b1.trans (b2.mono b1.size)
  have S0 : Hid (PvS w ((w.alloc (.cells #[.int .i64 0, .int .i64 0, .slice none 0 0] 28)).alloc (.cells #[.int .i64 p0, .int .i64 L.length, .slice none 0 0] 28)) 28 (w.heap.size + 1) p0 L.length (.slice none 0 0) [] none []) := Lib.hid ⟨blk_onB2 h1 b2, h2, (HsS.start w).on B0, .inl rfl, HsOk.nil, fun h => absurd rfl h⟩
  have KI := Lib.hid (items_any (w := ((w.alloc (.cells #[.int .i64 0, .int .i64 0, .slice none 0 0] 28)).alloc (.cells #[.int .i64 p0, .int .i64 L.length, .slice none 0 0] 28))) (hL.chg (Chg.below B0 (Nat.le_refl _) [])) bL hn hx (hT.on B0 hT.pos))
  have HT := Lib.hid hT
  clear hT
  obtain ⟨Z, hZ⟩ : ∃ Z, pth 17 p0 (lvN L L.length) = Z := ⟨_, rfl⟩
  rw [hZ]
  have HZ := Lib.hid hZ
  have hpI : ¬ (L.length : Int) ≤ (p0 : Int) := by omega
  have hpI2 : ¬ L.length ≤ p0 := by omega
  clear hL bL hx h1 h2 b1 b2 B0 hZ
  go_enter Tryd.func10, Tryd.ntmps10
  go_wp2_with fail
  generalize ((w.alloc (.cells #[.int .i64 0, .int .i64 0, .slice none 0 0] 28)).alloc (.cells #[.int .i64 p0, .int .i64 L.length, .slice none 0 0] 28)) = W0 at *
  refine KI.out.mono ?_
  rintro e w1 ⟨q1, rfl, hr1, hb1, hq1⟩
  have LV := lvN_len L L.length
  have S1 := Lib.hid (S0.out.on hb1 hr1 (lvN_ok L L.length) hq1)
  clear hr1 hb1 hq1 KI S0 hpI hpI2
  go_wp2_with fail
  go_loopw [0, 7] (fun pv lv wr => ∃ (p f : Nat) (q2 : Option Addr) (k2 : Nat) (Ss acc : List (List Int)) (qa : Option Addr) (na ca : Nat), pv = .int .i64 p ∧ lv = .slice q2 Ss.length k2 ∧ p < Ss.length ∧ Ss.length ≤ 65536 ∧ na ≤ 17 ∧ Hid (na = acc.length) ∧ Hid (acc ++ pth f p Ss = Z ∧ Ss.length ≤ 2 ^ f ∧ acc.length + f ≤ 17) ∧ Hid (PvS w wr 28 (w.heap.size + 1) p0 L.length (.slice qa na ca) acc q2 Ss)) (fun _ lv _ => match lv with | .slice _ n _ => n | _ => 0)
  case atStart => exact ⟨p0, 17, _, _, lvN L L.length, [], none, 0, 0, rfl, by rw [LV], by rw [LV]; exact hp, by rw [LV]; exact hn, by omega, Lib.hid rfl, Lib.hid ⟨HZ.out, by rw [LV]; omega, by simp⟩, S1⟩
  case round =>
    clear S1 LV
    obtain ⟨p, f, q2, k2, Ss, acc, qa, na, ca, rfl, rfl, hps, hS6, hna, HNA, hR, hS⟩ := hrel
    by_cases hlt : 1 < Ss.length
    · cases f with
      | zero => exfalso; have := hR.out.2.1; simp at this; omega
      | succ f =>
        obtain ⟨e1, e2, e3⟩ := hR.out
        unfold pth at e1
        rw [if_neg (by omega)] at e1
        rw [Nat.pow_succ] at e2
        have hna16 : na ≤ 16 := by have := HNA.out; omega
        have HUL := Lib.hid (upL_len Ss)
        have kx : bits .xor .i64 (p : Int) 1 = (bes p : Int) := bes_bits (by omega)
        by_cases hb : bes p < Ss.length
        · rw [if_pos hb] at e1
          have hbI : (bes p : Int) < (Ss.length : Int) := by omega
          have g0 : (0 : Int) ≤ (bes p : Int) := by omega
          obtain ⟨b, off, rfl, hx'⟩ := hS.out.rd.resolve_left (fun e => by rw [e] at hlt; simp at hlt)
          have r1 := hx' ((bes p)) (by omega)
          obtain ⟨lA, bA⟩ := hS.out.ok.get ((bes p)) (by omega)
          clear hx'
          obtain ⟨A, hA⟩ : ∃ A, Ss.getD ((bes p)) [] = A := ⟨_, rfl⟩
          rw [hA] at r1 lA bA e1
          have HAe := Lib.hid hA
          have lcA := hc_len A
          have HZN : Hid ((acc ++ [A]) ++ pth f (p / 2) (upL Ss) = Z ∧ (upL Ss).length ≤ 2 ^ f ∧ (acc ++ [A]).length + f ≤ 17) := Lib.hid ⟨by rw [List.append_assoc]; exact e1, by rw [upL_len]; omega, by rw [List.length_append, List.length_singleton]; omega⟩
          have HNL : Hid (na + 1 = (acc ++ [A]).length) := by show _ = _; rw [List.length_append, List.length_singleton, ← HNA.out]
          clear hA e1 e2 e3 hR
          have c2 := (Joins.cell_of_block hS.out.blk 2).trans (rfl : _ = some _)
          go_wp2_with fail
          refine wp_region_held_drew (S := fun W => rowOf W b (off + (bes p) * 32) 32 = hc A) (by kernel_rfl) (r1) (fun h0 => ?_)
          refine wpAnyH_take (i := 0) (v := ?_) (by rw [List.getElem?_toArray]; rfl) (by kernel_rfl) (by kernel_rfl) (by kernel_rfl) (by exact fun _ _ _ h => h) (Or.inl ⟨by rfl, ?_⟩) h0 ?_
          rotate_left
          · intro W hW
            go_simp
            all_goals with_reducible rfl
          try simp only [Act.put, List.setIfInBounds_toArray, List.set_cons_zero, List.set_cons_succ]
          refine wpAnyH_take (i := 2) (v := ?_) (by rw [List.getElem?_toArray]; rfl) (by kernel_rfl) (by kernel_rfl) (by kernel_rfl) (by exact fun _ _ _ h => h) (Or.inl ⟨by rfl, ?_⟩) h0 ?_
          rotate_left
          · intro W hW
            go_simp
            all_goals with_reducible rfl
          try simp only [Act.put, List.setIfInBounds_toArray, List.set_cons_zero, List.set_cons_succ]
          refine wpAnyH_take (i := 3) (v := ?_) (by rw [List.getElem?_toArray]; rfl) (by kernel_rfl) (by kernel_rfl) (by kernel_rfl) (by exact fun _ _ _ h => h) (Or.inl ⟨by rfl, ?_⟩) h0 ?_
          rotate_left
          · intro W hW
            go_simp
            all_goals with_reducible rfl
          try simp only [Act.put, List.setIfInBounds_toArray, List.set_cons_zero, List.set_cons_succ]
          refine wpAnyH_take (i := 4) (v := ?_) (by rw [List.getElem?_toArray]; rfl) (by kernel_rfl) (by kernel_rfl) (by kernel_rfl) (by exact fun _ _ _ h => h) (Or.inl ⟨by rfl, ?_⟩) h0 ?_
          rotate_left
          · intro W hW
            go_simp
            all_goals with_reducible rfl
          try simp only [Act.put, List.setIfInBounds_toArray, List.set_cons_zero, List.set_cons_succ]
          refine wpAnyH_take (i := 5) (v := ?_) (by rw [List.getElem?_toArray]; rfl) (by kernel_rfl) (by kernel_rfl) (by kernel_rfl) (by exact fun _ _ _ h => h) (Or.inl ⟨by rfl, ?_⟩) h0 ?_
          rotate_left
          · intro W hW
            have cc := hW
            go_simp
            all_goals with_reducible rfl
          try simp only [Act.put, List.setIfInBounds_toArray, List.set_cons_zero, List.set_cons_succ]
          refine wpAnyH_ready (rs := [1, 6]) (by kernel_rfl) (by simp) ?_
          refine AllReadyH.cons (by rw [List.getElem?_toArray]; rfl) (fun K hK => ?_) (AllReadyH.cons (by rw [List.getElem?_toArray]; rfl) (fun K hK => ?_) AllReadyH.nil)
          · rw [if_pos (by rfl)]
            go_wp2_with fail
            refine hK.out _ _ (h0) (fun h1 => ?_)
            clear hK K
            try simp only [Act.put, List.setIfInBounds_toArray, List.set_cons_zero, List.set_cons_succ]
            refine wpAnyH_ready (rs := [6]) (by kernel_rfl) (by simp) ?_
            refine AllReadyH.cons (by rw [List.getElem?_toArray]; rfl) (fun K hK => ?_) AllReadyH.nil
            rw [if_pos (by rfl)]
            have b3 : Below wr.heap.size wr (wr.alloc (.cells (hc A).toArray 36)) := (Below.refl _ _).alloc (Nat.le_refl _) _
            have S3 : Hid (PvS w (wr.alloc (.cells (hc A).toArray 36)) 28 (w.heap.size + 1) (p0 : Int) (L.length : Int) (.slice qa na ca) acc (some ⟨b, off, none⟩) Ss) := hS.out.same b3
            have R3 := Lib.hid (one_hs (w := wr) lA bA)
            have K3 : Hid (rowOf (wr.alloc (.cells (hc A).toArray 36)) b (off + (bes p) * 32) 32 = hc A) := Lib.hid (show _ = _ by rw [rowOf_on (by rw [r1, lcA, lA]; omega) b3]; exact r1)
            clear b3
            go_wp2_with fail
            refine hK.out _ _ (K3.out) (fun h6 => ?_)
            clear hK K
            try simp only [Act.put, List.setIfInBounds_toArray, List.set_cons_zero, List.set_cons_succ]
            generalize hW3 : (wr.alloc (.cells (hc A).toArray 36)) = w3 at *
            clear hW3
            have c3 := (Joins.cell_of_block S3.out.blk 2).trans (rfl : _ = some _)
            refine wpAnyH_ready (rs := [7]) (by kernel_rfl) (by simp) ?_
            refine AllReadyH.cons (by rw [List.getElem?_toArray]; rfl) (fun K hK => ?_) AllReadyH.nil
            rw [if_pos (by rfl)]
            have OW : w3.drew.ownsRow 0 36 32 (.slice qa na ca) na (hcs acc) := by have := S3.out.hs.own; rw [← HNA.out] at this; exact this
            refine wp_append_row _ _ rfl Tryd.underlying26 hi.out hz0.out hz1.out hz2.out zero_cells OW ((show RdHs w3.drew (some ⟨wr.heap.size, 0, none⟩) [A] from R3.out).src (P := Tryd.prog) (HsOk.one lA bA) Tryd.underlying26) (by unfold maxLen; (try simp only [List.length_singleton]); omega) (by (try simp only [List.length_singleton]); omega) ?_
            intro q6 k6 w6 own6' grow6' fr6'
            have own6 : w6.ownsRow 0 36 32 (.slice q6 (na + 1) k6) (na + 1) (hcs acc ++ hcs [A]) := own6'
            have grow6 : w3.drew.grownBy w6 (Value.slice qa na ca).ownBlock := grow6'
            have fr6 : (Value.slice q6 (na + 1) k6).ownBlock = (Value.slice qa na ca).ownBlock ∨ (Value.slice q6 (na + 1) k6).ownBlock = some w3.drew.heap.size := fr6'
            have HN := Lib.hid (PvS.grow (w3 := w3.drew) (show PvS w w3.drew 28 (w.heap.size + 1) (p0 : Int) (L.length : Int) (.slice qa na ca) acc (some ⟨b, off, none⟩) Ss from ⟨S3.out.out, S3.out.blk, S3.out.hs.on ((Below.refl _ _).drew), S3.out.rd, S3.out.ok, S3.out.nb⟩) (by decide) lA bA (by omega) HNA.out own6 grow6 fr6)
            have f2 := Joins.unfrozen_of_block HN.out.1 2
            have z2 := (Joins.cell_of_block HN.out.1 2).trans (rfl : _ = some _)
            have kr : ∀ w9, PvS w w9 28 (w.heap.size + 1) (p0 : Int) (L.length : Int) (.slice q6 (na + 1) k6) (acc ++ [A]) (some ⟨b, off, none⟩) Ss → rowOf w9 b (off + (bes p) * 32) 32 = hc A := fun w9 h9 => by
              obtain ⟨b', off', e', hx'⟩ := h9.rd.resolve_left (fun e => by rw [e] at hlt; simp at hlt)
              simp only [Option.some.injEq, Addr.mk.injEq] at e'
              obtain ⟨rfl, rfl, -⟩ := e'
              rw [hx' ((bes p)) (by omega), HAe.out]
            have K9 := Lib.hid (kr _ HN.out.2)
            have K6 : Hid (rowOf w6 b (off + (bes p) * 32) 32 = hc A) := by
              have hne : b ≠ w.heap.size + 1 := fun e => by
                obtain ⟨b', off', e', h1, h2⟩ := S3.out.rd.blk S3.out.ok (fun e => by rw [e] at hlt; simp at hlt)
                simp only [Option.some.injEq, Addr.mk.injEq] at e'
                obtain ⟨rfl, rfl, -⟩ := e'
                rw [e] at h2
                have := h2 _ _ _ S3.out.blk
                simp at this
              have := K9.out
              show _ = _
              rw [← this]
              unfold rowOf
              rw [Below.heap_setCell _ _ _ _ hne]
            clear own6' grow6' fr6' own6 grow6 fr6 OW kr
            refine hK.out _ _ (K6.out) (fun h7 => ?_)
            clear hK K
            try simp only [Act.put, List.setIfInBounds_toArray, List.set_cons_zero, List.set_cons_succ]
            refine wpAnyH_take (i := 8) (v := ?_) (by rw [List.getElem?_toArray]; rfl) (by kernel_rfl) (by kernel_rfl) (by kernel_rfl) (by exact fun _ _ _ h => h) (Or.inl ⟨by rfl, ?_⟩) h7 ?_
            rotate_left
            · intro W hW
              go_simp
              all_goals with_reducible rfl
            try simp only [Act.put, List.setIfInBounds_toArray, List.set_cons_zero, List.set_cons_succ]
            refine wpAnyH_ready (rs := [9]) (by kernel_rfl) (by simp) ?_
            refine AllReadyH.cons (by rw [List.getElem?_toArray]; rfl) (fun K hK => ?_) AllReadyH.nil
            rw [if_pos (by rfl)]
            go_wp2_with fail
            refine hK.out _ _ (K9.out) (fun h9 => ?_)
            clear hK K
            try simp only [Act.put, List.setIfInBounds_toArray, List.set_cons_zero, List.set_cons_succ]
            refine wpAnyH_done (by kernel_rfl) ?_ _
            clear h9 h7 h6 h1 K6 K9 K3 z2 f2 c3 S3 R3
            go_wp2_with fail
            refine (next_any (k := k2) HN.out.2.rd HN.out.2.ok hS6 (by omega) (HT.out.on HN.out.2.hs.below HT.out.pos)).mono ?_
            rintro e w8 ⟨q8, k8, rfl, hr8, hb8, hq8⟩
            have H8 := Lib.hid (HN.out.2.on hb8 hr8 (upL_ok HN.out.2.ok) hq8)
            clear hr8 hb8 hq8
            go_wp2_with fail
            go_roundw
            case rel => exact ⟨p / 2, f, q8, k8, upL Ss, acc ++ [A], _, _, _, by go_num, rfl, by rw [HUL.out]; omega, by rw [HUL.out]; omega, by omega, HNL, HZN, H8⟩
            case measure => have e := HUL.out; show (upL Ss).length < Ss.length; omega
          · rw [if_pos (by rfl)]
            have b3 : Below wr.heap.size wr (wr.alloc (.cells (hc A).toArray 36)) := (Below.refl _ _).alloc (Nat.le_refl _) _
            have S3 : Hid (PvS w (wr.alloc (.cells (hc A).toArray 36)) 28 (w.heap.size + 1) (p0 : Int) (L.length : Int) (.slice qa na ca) acc (some ⟨b, off, none⟩) Ss) := hS.out.same b3
            have R3 := Lib.hid (one_hs (w := wr) lA bA)
            have K3 : Hid (rowOf (wr.alloc (.cells (hc A).toArray 36)) b (off + (bes p) * 32) 32 = hc A) := Lib.hid (show _ = _ by rw [rowOf_on (by rw [r1, lcA, lA]; omega) b3]; exact r1)
            clear b3
            go_wp2_with fail
            refine hK.out _ _ (K3.out) (fun h6 => ?_)
            clear hK K
            try simp only [Act.put, List.setIfInBounds_toArray, List.set_cons_zero, List.set_cons_succ]
            generalize hW3 : (wr.alloc (.cells (hc A).toArray 36)) = w3 at *
            clear hW3
            have c3 := (Joins.cell_of_block S3.out.blk 2).trans (rfl : _ = some _)
            refine wpAnyH_ready (rs := [1]) (by kernel_rfl) (by simp) ?_
            refine AllReadyH.cons (by rw [List.getElem?_toArray]; rfl) (fun K hK => ?_) AllReadyH.nil
            rw [if_pos (by rfl)]
            go_wp2_with fail
            refine hK.out _ _ (h6) (fun h1 => ?_)
            clear hK K
            try simp only [Act.put, List.setIfInBounds_toArray, List.set_cons_zero, List.set_cons_succ]
            refine wpAnyH_ready (rs := [7]) (by kernel_rfl) (by simp) ?_
            refine AllReadyH.cons (by rw [List.getElem?_toArray]; rfl) (fun K hK => ?_) AllReadyH.nil
            rw [if_pos (by rfl)]
            have OW : w3.drew.ownsRow 0 36 32 (.slice qa na ca) na (hcs acc) := by have := S3.out.hs.own; rw [← HNA.out] at this; exact this
            refine wp_append_row _ _ rfl Tryd.underlying26 hi.out hz0.out hz1.out hz2.out zero_cells OW ((show RdHs w3.drew (some ⟨wr.heap.size, 0, none⟩) [A] from R3.out).src (P := Tryd.prog) (HsOk.one lA bA) Tryd.underlying26) (by unfold maxLen; (try simp only [List.length_singleton]); omega) (by (try simp only [List.length_singleton]); omega) ?_
            intro q6 k6 w6 own6' grow6' fr6'
            have own6 : w6.ownsRow 0 36 32 (.slice q6 (na + 1) k6) (na + 1) (hcs acc ++ hcs [A]) := own6'
            have grow6 : w3.drew.grownBy w6 (Value.slice qa na ca).ownBlock := grow6'
            have fr6 : (Value.slice q6 (na + 1) k6).ownBlock = (Value.slice qa na ca).ownBlock ∨ (Value.slice q6 (na + 1) k6).ownBlock = some w3.drew.heap.size := fr6'
            have HN := Lib.hid (PvS.grow (w3 := w3.drew) (show PvS w w3.drew 28 (w.heap.size + 1) (p0 : Int) (L.length : Int) (.slice qa na ca) acc (some ⟨b, off, none⟩) Ss from ⟨S3.out.out, S3.out.blk, S3.out.hs.on ((Below.refl _ _).drew), S3.out.rd, S3.out.ok, S3.out.nb⟩) (by decide) lA bA (by omega) HNA.out own6 grow6 fr6)
            have f2 := Joins.unfrozen_of_block HN.out.1 2
            have z2 := (Joins.cell_of_block HN.out.1 2).trans (rfl : _ = some _)
            have kr : ∀ w9, PvS w w9 28 (w.heap.size + 1) (p0 : Int) (L.length : Int) (.slice q6 (na + 1) k6) (acc ++ [A]) (some ⟨b, off, none⟩) Ss → rowOf w9 b (off + (bes p) * 32) 32 = hc A := fun w9 h9 => by
              obtain ⟨b', off', e', hx'⟩ := h9.rd.resolve_left (fun e => by rw [e] at hlt; simp at hlt)
              simp only [Option.some.injEq, Addr.mk.injEq] at e'
              obtain ⟨rfl, rfl, -⟩ := e'
              rw [hx' ((bes p)) (by omega), HAe.out]
            have K9 := Lib.hid (kr _ HN.out.2)
            have K6 : Hid (rowOf w6 b (off + (bes p) * 32) 32 = hc A) := by
              have hne : b ≠ w.heap.size + 1 := fun e => by
                obtain ⟨b', off', e', h1, h2⟩ := S3.out.rd.blk S3.out.ok (fun e => by rw [e] at hlt; simp at hlt)
                simp only [Option.some.injEq, Addr.mk.injEq] at e'
                obtain ⟨rfl, rfl, -⟩ := e'
                rw [e] at h2
                have := h2 _ _ _ S3.out.blk
                simp at this
              have := K9.out
              show _ = _
              rw [← this]
              unfold rowOf
              rw [Below.heap_setCell _ _ _ _ hne]
            clear own6' grow6' fr6' own6 grow6 fr6 OW kr
            refine hK.out _ _ (K6.out) (fun h7 => ?_)
            clear hK K
            try simp only [Act.put, List.setIfInBounds_toArray, List.set_cons_zero, List.set_cons_succ]
            refine wpAnyH_take (i := 8) (v := ?_) (by rw [List.getElem?_toArray]; rfl) (by kernel_rfl) (by kernel_rfl) (by kernel_rfl) (by exact fun _ _ _ h => h) (Or.inl ⟨by rfl, ?_⟩) h7 ?_
            rotate_left
            · intro W hW
              go_simp
              all_goals with_reducible rfl
            try simp only [Act.put, List.setIfInBounds_toArray, List.set_cons_zero, List.set_cons_succ]
            refine wpAnyH_ready (rs := [9]) (by kernel_rfl) (by simp) ?_
            refine AllReadyH.cons (by rw [List.getElem?_toArray]; rfl) (fun K hK => ?_) AllReadyH.nil
            rw [if_pos (by rfl)]
            go_wp2_with fail
            refine hK.out _ _ (K9.out) (fun h9 => ?_)
            clear hK K
            try simp only [Act.put, List.setIfInBounds_toArray, List.set_cons_zero, List.set_cons_succ]
            refine wpAnyH_done (by kernel_rfl) ?_ _
            clear h9 h7 h6 h1 K6 K9 K3 z2 f2 c3 S3 R3
            go_wp2_with fail
            refine (next_any (k := k2) HN.out.2.rd HN.out.2.ok hS6 (by omega) (HT.out.on HN.out.2.hs.below HT.out.pos)).mono ?_
            rintro e w8 ⟨q8, k8, rfl, hr8, hb8, hq8⟩
            have H8 := Lib.hid (HN.out.2.on hb8 hr8 (upL_ok HN.out.2.ok) hq8)
            clear hr8 hb8 hq8
            go_wp2_with fail
            go_roundw
            case rel => exact ⟨p / 2, f, q8, k8, upL Ss, acc ++ [A], _, _, _, by go_num, rfl, by rw [HUL.out]; omega, by rw [HUL.out]; omega, by omega, HNL, HZN, H8⟩
            case measure => have e := HUL.out; show (upL Ss).length < Ss.length; omega
        · rw [if_neg hb] at e1
          have hbI : (Ss.length : Int) ≤ (bes p : Int) := by omega
          have HZN : Hid (acc ++ pth f (p / 2) (upL Ss) = Z ∧ (upL Ss).length ≤ 2 ^ f ∧ acc.length + f ≤ 17) := Lib.hid ⟨by rw [List.nil_append] at e1; exact e1, by rw [upL_len]; omega, by omega⟩
          clear e1 e2 e3 hR
          go_wp2_with fail
          refine (next_any (k := k2) hS.out.rd hS.out.ok hS6 (by omega) (HT.out.on hS.out.hs.below HT.out.pos)).mono ?_
          rintro e w8 ⟨q8, k8, rfl, hr8, hb8, hq8⟩
          have H8 := Lib.hid (hS.out.on hb8 hr8 (upL_ok hS.out.ok) hq8)
          clear hr8 hb8 hq8
          go_wp2_with fail
          go_roundw
          case rel => exact ⟨p / 2, f, q8, k8, upL Ss, acc, _, _, _, by go_num, rfl, by rw [HUL.out]; omega, by rw [HUL.out]; omega, by omega, HNA, HZN, H8⟩
          case measure => have e := HUL.out; show (upL Ss).length < Ss.length; omega
    · have hacc : acc = Z := by
        have e1 := hR.out.1
        have e2 : pth f p Ss = [] := by
          cases f with
          | zero => rfl
          | succ f => unfold pth; rw [if_pos (by omega)]
        rw [e2, List.append_nil] at e1
        exact e1
      obtain rfl : na = Z.length := by rw [HNA.out, hacc]
      subst hacc
      have hne : (Value.slice qa acc.length ca).ownBlock ≠ some w.heap.size := own_ne hS.out.hs.own hS.out.out (by decide)
      have HF : Hid (HsS w (((wr.setCell ⟨w.heap.size, 0, none⟩ (.int .i64 p0)).setCell ⟨w.heap.size, 1, none⟩ (.int .i64 (L.length : Int))).setCell ⟨w.heap.size, 2, none⟩ (.slice qa acc.length ca)) (.slice qa acc.length ca) acc) := by
        refine ⟨own_keep hS.out.hs.own (fun j hj => ?_), hS.out.hs.ok, hS.out.hs.fresh, ((hS.out.hs.below.setCell (p := ⟨_, 0, none⟩) (by simp) _).setCell (p := ⟨_, 1, none⟩) (by simp) _).setCell (p := ⟨_, 2, none⟩) (by simp) _⟩
        have hj1 : j ≠ w.heap.size := fun e => hne (e ▸ hj)
        rw [Below.heap_setCell _ _ _ _ hj1, Below.heap_setCell _ _ _ _ hj1, Below.heap_setCell _ _ _ _ hj1]
      have hb9 : (((wr.setCell ⟨w.heap.size, 0, none⟩ (.int .i64 p0)).setCell ⟨w.heap.size, 1, none⟩ (.int .i64 (L.length : Int))).setCell ⟨w.heap.size, 2, none⟩ (.slice qa acc.length ca)).heap[w.heap.size]? = some (.cells #[.int .i64 p0, .int .i64 (L.length : Int), .slice qa acc.length ca] 28 (0, 0)) :=
        Joins.block_setCell (Joins.block_setCell (Joins.block_setCell hS.out.out _) _) _
      have y0 := (Joins.cell_of_block hb9 0).trans (rfl : _ = some _)
      have y1 := (Joins.cell_of_block hb9 1).trans (rfl : _ = some _)
      have y2 := (Joins.cell_of_block hb9 2).trans (rfl : _ = some _)
      have z0 := (Joins.cell_of_block hS.out.blk 0).trans (rfl : _ = some _)
      have z1 := (Joins.cell_of_block hS.out.blk 1).trans (rfl : _ = some _)
      have z2 := (Joins.cell_of_block hS.out.blk 2).trans (rfl : _ = some _)
      have x0 := (Joins.cell_of_block hS.out.out 0).trans (rfl : _ = some _)
      have x1 := (Joins.cell_of_block hS.out.out 1).trans (rfl : _ = some _)
      have x2 := (Joins.cell_of_block hS.out.out 2).trans (rfl : _ = some _)
      have f0 := Joins.unfrozen_of_block hS.out.out 0
      have f1 := Joins.unfrozen_of_block hS.out.out 1
      have f2 := Joins.unfrozen_of_block hS.out.out 2
      clear hS hR hb9 hne
      go_wp2_with fail
      refine bodyPost_ret (v := .tuple #[.agg #[.int .i64 p0, .int .i64 (L.length : Int), .slice qa acc.length ca], .int .i64 0]) (by simp [results, Tryd.results10, go_sem, y0, y1, y2]) rfl ⟨qa, ca, rfl, HF.out⟩
end Go.Proofs.YtebeacejlkiglaaDoor
