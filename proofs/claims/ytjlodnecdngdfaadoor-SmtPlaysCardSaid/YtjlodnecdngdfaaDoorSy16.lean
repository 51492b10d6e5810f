/-
  The law's copy of pairs.; The law's comparison of pairs.; The strings that the document digests for a leaf and above two nodes.; Rows of strings of a call's own: laid, joined, appended to.
-/
import Derived.Test.YtjlodnecdngdfaaDoorSy2
import Derived.Test.YtjlodnecdngdfaaDoorSy5
import Derived.Test.YtjlodnecdngdfaaDoorSy13
import Derived.Test.YtjlodnecdngdfaaDoorSy14
import Derived.Test.YtjlodnecdngdfaaDoorSy15
namespace Go.Proofs.YtjlodnecdngdfaaDoor
open Go.RowKit
set_option maxRecDepth 100000

def toE (x : List Int × List Int) : En := ⟨x.1, x.2, 0⟩
def toEs (L : PrL) : List En := L.map toE
theorem toEs_step {L : PrL} {i : Nat} (hi : i < L.length) : toEs (L.take (i + 1)) = toEs (L.take i) ++ [toE (L.getD i pr0)] := by
  unfold toEs
  rw [List.take_add_one, List.map_append]
  congr 1
  simp [List.getD, hi]
theorem toEs_len (L : PrL) : (toEs L).length = L.length := List.length_map ..
theorem toEs_ok {L : PrL} (ok : PrsOk L) : EnOk (toEs L) := fun e he => by
  obtain ⟨x, hx, rfl⟩ := List.mem_map.1 he
  exact ⟨(ok x hx).k.len, (ok x hx).l⟩
structure Ow5 (w wr : World) (q : Option Addr) (k i : Nat) (L : PrL) : Prop where
  own : wr.ownsRow 0 72 64 (.slice q i k) i (prL (toEs (L.take i)))
  below : Below w.heap.size w wr
  fresh : ∀ g, (Value.slice q i k).ownBlock = some g → w.heap.size ≤ g
section
variable {w wr w' : World} {q q' : Option Addr} {k k' i : Nat} {L : PrL}
theorem Ow5.on (h : Ow5 w wr q k i L) (hb : Below wr.heap.size wr w') : Ow5 w w' q k i L := ⟨own_on h.own hb, h.below.trans (hb.mono h.below.size), h.fresh⟩
theorem Ow5.more {x : List Int × List Int} (h : Ow5 w wr q k i L) (own : w'.ownsRow 0 72 64 (.slice q' (i + 1) k') (i + 1) (prL (toEs (L.take i)) ++ prRow x.1 x.2)) (grow : wr.grownBy w' (Value.slice q i k).ownBlock)
    (fr : (Value.slice q' (i + 1) k').ownBlock = (Value.slice q i k).ownBlock ∨ (Value.slice q' (i + 1) k').ownBlock = some wr.heap.size) (hi : i < L.length := by assumption) (hx : L.getD i pr0 = x := by assumption) : Ow5 w w' q' k' (i + 1) L := by
  refine ⟨by rw [toEs_step hi, prL_app, hx]; simpa [prL, toE] using own, h.below.grown grow h.below.size (fun g hg => h.fresh g hg), fun g hg => ?_⟩
  rcases fr with e | e
  · rw [e] at hg; exact h.fresh g hg
  · rw [e] at hg; have := h.below.size; simp at hg; omega
end
set_option maxHeartbeats 16000000 in
theorem Own5_any {w : World} {q : Option Addr} {c : Nat} {L : PrL} (hq : RdQ w q L) (ok : PrsOk L) (hl : L.length ≤ 4000) :
    Calls Tryd.prog 10 #[.slice q L.length c] w fun e w' => ∃ q' k, e = .returned (.slice q' L.length k) ∧ w'.ownsRow 0 72 64 (.slice q' L.length k) L.length (prL (toEs L)) ∧ Below w.heap.size w w' := by
  obtain ⟨i0, hi, hz0, hz1, hz2⟩ := info_parts Tryd.infoPr
  replace hi := Lib.hid hi
  replace hz0 := Lib.hid hz0
  replace hz1 := Lib.hid hz1
  replace hz2 := Lib.hid hz2
  have HZS : Hid ((Value.agg (prRow zero32 zero32).toArray).cells.size = 64) := by
    show (prRow zero32 zero32).toArray.size = 64
    have := prRow_len zero32_len zero32_len
    simpa using this
  have HQ := Lib.hid hq
  have OK := Lib.hid ok
  have OS0 : Hid (Ow5 w w none 0 0 L) := ⟨by rw [List.take_zero]; exact World.ownsRow_nil w 0 _ 64, Below.refl _ _, fun g hg => by simp [Value.ownBlock] at hg⟩
  clear hq ok
  go_enter Tryd.func10, Tryd.ntmps10
  go_wp2_with fail
  go_loopw [3, 4] (fun ov iv wr => ∃ (i : Nat) (q : Option Addr) (k : Nat), iv = .int .i64 (i : Int) ∧ ov = .slice q i k ∧ i ≤ L.length ∧ Hid (Ow5 w wr q k i L)) (fun _ iv _ => L.length - (intOf iv).toNat)
  case atStart => exact ⟨0, none, 0, rfl, rfl, by omega, OS0⟩
  case round =>
    clear OS0
    obtain ⟨i, q1, k1, rfl, rfl, hil, OS⟩ := hrel
    by_cases hlt : i < L.length
    · have hltI : (i : Int) < (L.length : Int) := by omega
      obtain ⟨b, off, rfl, rd0⟩ := HQ.out.resolve_left (fun e => by rw [e] at hlt; simp at hlt)
      have OKX := Lib.hid (prOk_get OK.out hlt)
      have R9 : Hid (∀ W, Below w.heap.size w W → rowOf W b (off + i * 64) 32 = hc (L.getD i pr0).1 ∧ rowOf W b (off + i * 64 + 32) 32 = hc (L.getD i pr0).2) := fun W hW => rowOf_half OKX.out.k.len OKX.out.l ((rd0.on OK.out hW) i hlt)
      obtain ⟨x, hx⟩ : ∃ x, L.getD i pr0 = x := ⟨_, rfl⟩
      rw [hx] at OKX R9
      have lK := OKX.out.k.len
      have lV := OKX.out.l
      have hlK := hc_len x.1
      have hlV := hc_len x.2
      have hprl := prRow_len (K := x.1) (V := x.2) lK lV
      have z32 := zero32_len
      have g0 : (0 : Int) ≤ (i : Int) := by omega
      have OS4 := Lib.hid (OS.out.on (Below.refl _ _).drew)
      have hS4 := R9.out _ OS4.out.below
      clear rd0 OS
      go_wp2_with fail
      refine wp_region_held_drew (S := fun W => rowOf W b (off + i * 64) 32 = hc x.1 ∧ rowOf W b (off + i * 64 + 32) 32 = hc x.2) (by kernel_rfl) (hS4) (fun h0 => ?_)
      generalize wr.drew = w4 at *
      refine wpAnyH_take (i := 0) (v := ?_) (by rw [List.getElem?_toArray]; rfl) (by kernel_rfl) (by kernel_rfl) (by kernel_rfl) (by exact fun _ _ _ h => h) (Or.inl ⟨by rfl, ?_⟩) h0 ?_
      rotate_left
      · intro W hW
        go_simp
        all_goals with_reducible rfl
      try simp only [Act.put, List.setIfInBounds_toArray, List.set_cons_zero, List.set_cons_succ]
      refine wpAnyH_take (i := 1) (v := ?_) (by rw [List.getElem?_toArray]; rfl) (by kernel_rfl) (by kernel_rfl) (by kernel_rfl) (by exact fun _ _ _ h => h) (Or.inl ⟨by rfl, ?_⟩) h0 ?_
      rotate_left
      · intro W hW
        go_simp
        all_goals with_reducible rfl
      try simp only [Act.put, List.setIfInBounds_toArray, List.set_cons_zero, List.set_cons_succ]
      refine wpAnyH_take (i := 2) (v := ?_) (by rw [List.getElem?_toArray]; rfl) (by kernel_rfl) (by kernel_rfl) (by kernel_rfl) (by exact fun _ _ _ h => h) (Or.inl ⟨by rfl, ?_⟩) h0 ?_
      rotate_left
      · intro W hW
        go_simp
        all_goals with_reducible rfl
      try simp only [Act.put, List.setIfInBounds_toArray, List.set_cons_zero, List.set_cons_succ]
      refine wpAnyH_take (i := 3) (v := ?_) (by rw [List.getElem?_toArray]; rfl) (by kernel_rfl) (by kernel_rfl) (by kernel_rfl) (by exact fun _ _ _ h => h) (Or.inl ⟨by rfl, ?_⟩) h0 ?_
      rotate_left
      · intro W hW
        go_simp
        all_goals with_reducible rfl
      try simp only [Act.put, List.setIfInBounds_toArray, List.set_cons_zero, List.set_cons_succ]
      refine wpAnyH_take (i := 4) (v := ?_) (by rw [List.getElem?_toArray]; rfl) (by kernel_rfl) (by kernel_rfl) (by kernel_rfl) (by exact fun _ _ _ h => h) (Or.inl ⟨by rfl, ?_⟩) h0 ?_
      rotate_left
      · intro W hW
        go_simp
        all_goals with_reducible rfl
      try simp only [Act.put, List.setIfInBounds_toArray, List.set_cons_zero, List.set_cons_succ]
      refine wpAnyH_take (i := 5) (v := ?_) (by rw [List.getElem?_toArray]; rfl) (by kernel_rfl) (by kernel_rfl) (by kernel_rfl) (by exact fun _ _ _ h => h) (Or.inl ⟨by rfl, ?_⟩) h0 ?_
      rotate_left
      · intro W hW
        have c1 := hW.1
        go_simp
        all_goals with_reducible rfl
      try simp only [Act.put, List.setIfInBounds_toArray, List.set_cons_zero, List.set_cons_succ]
      refine wpAnyH_take (i := 6) (v := ?_) (by rw [List.getElem?_toArray]; rfl) (by kernel_rfl) (by kernel_rfl) (by kernel_rfl) (by exact fun _ _ _ h => h) (Or.inl ⟨by rfl, ?_⟩) h0 ?_
      rotate_left
      · intro W hW
        go_simp
        all_goals with_reducible rfl
      try simp only [Act.put, List.setIfInBounds_toArray, List.set_cons_zero, List.set_cons_succ]
      refine wpAnyH_take (i := 7) (v := ?_) (by rw [List.getElem?_toArray]; rfl) (by kernel_rfl) (by kernel_rfl) (by kernel_rfl) (by exact fun _ _ _ h => h) (Or.inl ⟨by rfl, ?_⟩) h0 ?_
      rotate_left
      · intro W hW
        go_simp
        all_goals with_reducible rfl
      try simp only [Act.put, List.setIfInBounds_toArray, List.set_cons_zero, List.set_cons_succ]
      refine wpAnyH_take (i := 8) (v := ?_) (by rw [List.getElem?_toArray]; rfl) (by kernel_rfl) (by kernel_rfl) (by kernel_rfl) (by exact fun _ _ _ h => h) (Or.inl ⟨by rfl, ?_⟩) h0 ?_
      rotate_left
      · intro W hW
        go_simp
        all_goals with_reducible rfl
      try simp only [Act.put, List.setIfInBounds_toArray, List.set_cons_zero, List.set_cons_succ]
      refine wpAnyH_take (i := 9) (v := ?_) (by rw [List.getElem?_toArray]; rfl) (by kernel_rfl) (by kernel_rfl) (by kernel_rfl) (by exact fun _ _ _ h => h) (Or.inl ⟨by rfl, ?_⟩) h0 ?_
      rotate_left
      · intro W hW
        go_simp
        all_goals with_reducible rfl
      try simp only [Act.put, List.setIfInBounds_toArray, List.set_cons_zero, List.set_cons_succ]
      refine wpAnyH_take (i := 10) (v := ?_) (by rw [List.getElem?_toArray]; rfl) (by kernel_rfl) (by kernel_rfl) (by kernel_rfl) (by exact fun _ _ _ h => h) (Or.inl ⟨by rfl, ?_⟩) h0 ?_
      rotate_left
      · intro W hW
        have c2 := hW.2
        go_simp
        all_goals with_reducible rfl
      try simp only [Act.put, List.setIfInBounds_toArray, List.set_cons_zero, List.set_cons_succ]
      refine wpAnyH_take (i := 11) (v := ?_) (by rw [List.getElem?_toArray]; rfl) (by kernel_rfl) (by kernel_rfl) (by kernel_rfl) (by exact fun _ _ _ h => h) (Or.inl ⟨by rfl, ?_⟩) h0 ?_
      rotate_left
      · intro W hW
        go_simp
        all_goals with_reducible rfl
      try simp only [Act.put, List.setIfInBounds_toArray, List.set_cons_zero, List.set_cons_succ]
      refine wpAnyH_ready (rs := [12]) (by kernel_rfl) (by simp) ?_
      refine AllReadyH.cons (by rw [List.getElem?_toArray]; rfl) (fun KX hKK => ?_) AllReadyH.nil
      first | rw [if_pos (by rfl)] | skip
      have b6 : Below w4.heap.size w4 (w4.alloc (.cells (prRow x.1 x.2).toArray 72)) := (Below.refl _ _).alloc (Nat.le_refl _) _
      have O6 := Lib.hid (OS4.out.on b6)
      have SR := Lib.hid (src_any (P := Tryd.prog) (T := 72) (n := 64) (w := w4) (R := prRow x.1 x.2) Tryd.underlying30 hprl (fun u hu => (Array.all_eq_true_iff_forall_mem.1 (pr_one x.1 x.2)) u (by simpa using hu)))
      have hrs := Tryd.run_slice_pr w4 x.1 x.2 lK lV
      have hS := R9.out _ O6.out.below
      go_wp2_with fail
      refine hKK.out _ _ (hS) (fun h0 => ?_)
      clear hKK KX
      try simp only [Act.put, List.setIfInBounds_toArray, List.set_cons_zero, List.set_cons_succ]
      clear hrs b6 OS4 hS
      obtain ⟨lb, hlb⟩ : ∃ lb, w4.heap.size = lb := ⟨_, rfl⟩
      rw [hlb] at SR ⊢
      clear hlb
      generalize w4.alloc (.cells (prRow x.1 x.2).toArray 72) = w6 at *
      refine wpAnyH_ready (rs := [13]) (by kernel_rfl) (by simp) ?_
      refine AllReadyH.cons (by rw [List.getElem?_toArray]; rfl) (fun KX hKK => ?_) AllReadyH.nil
      first | rw [if_pos (by rfl)] | skip
      refine wp_append_row _ _ rfl Tryd.underlying30 hi.out hz0.out hz1.out hz2.out HZS.out O6.out.own SR.out ?b1 ?b2 ?_
      case b1 => unfold maxLen; omega
      case b2 => omega
      intro q7 k7 w7 own7 grow7 fr7
      have O7 := Lib.hid (O6.out.more own7 grow7 fr7)
      have hS := R9.out _ O7.out.below
      clear own7 grow7 fr7 SR O6
      refine hKK.out _ _ (hS) (fun h0 => ?_)
      clear hKK KX
      try simp only [Act.put, List.setIfInBounds_toArray, List.set_cons_zero, List.set_cons_succ]
      clear hS
      refine wpAnyH_take (i := 14) (v := ?_) (by rw [List.getElem?_toArray]; rfl) (by kernel_rfl) (by kernel_rfl) (by kernel_rfl) (by exact fun _ _ _ h => h) (Or.inl ⟨by rfl, ?_⟩) h0 ?_
      rotate_left
      · intro W hW
        go_simp
        all_goals with_reducible rfl
      try simp only [Act.put, List.setIfInBounds_toArray, List.set_cons_zero, List.set_cons_succ]
      refine wpAnyH_done (by kernel_rfl) ?_ _
      clear h0
      go_wp2_with fail
      go_roundw
      case rel => exact ⟨i + 1, q7, k7, by go_num, rfl, by omega, O7⟩
      case measure => simp [intOf]; omega
    · have hltI : ¬ (i : Int) < (L.length : Int) := by omega
      obtain rfl : i = L.length := by omega
      go_wp2_with fail
      refine bodyPost_ret (v := .slice q1 L.length k1) (by simp [results, Tryd.results10, go_sem]) rfl ?_
      refine ⟨q1, k1, rfl, ?_, OS.out.below⟩
      have := OS.out.own
      rw [List.take_length] at this
      exact this
end Go.Proofs.YtjlodnecdngdfaaDoor
namespace Go.Proofs.YtjlodnecdngdfaaDoor
open Go.RowKit
set_option maxRecDepth 100000

set_option maxHeartbeats 16000000 in
theorem samep_any {w : World} {q1 q2 : Option Addr} {c1 c2 : Nat} {E : List En} {L : PrL} (h1 : RdP w q1 E) (okE : EnOk E) (h2 : RdQ w q2 L) (ok : PrsOk L) (he : E.length = L.length) (hkv : ∀ i, i < L.length → (E.getD i e0).k = (L.getD i pr0).1 ∧ (E.getD i e0).v = (L.getD i pr0).2) (hl : L.length ≤ 4000) :
    Calls Tryd.prog 17 #[.slice q1 L.length c1, .slice q2 L.length c2] w fun e w' => e = .returned (.bool true) ∧ Below w.heap.size w w' := by
  have HP := Lib.hid h1
  have HQ := Lib.hid h2
  have OK := Lib.hid ok
  have OKE := Lib.hid okE
  have HE := Lib.hid he
  have KV := Lib.hid hkv
  have B0 : Hid (Below w.heap.size w w) := Below.refl _ _
  clear h1 h2 ok okE he hkv
  go_enter Tryd.func17, Tryd.ntmps17
  go_wp2_with fail
  go_loopw [5] (fun iv wr => ∃ (i : Nat), iv = .int .i64 (i : Int) ∧ i ≤ L.length ∧ Hid (Below w.heap.size w wr)) (fun iv _ => L.length - (intOf iv).toNat)
  case atStart => exact ⟨0, rfl, by omega, B0⟩
  case round =>
    clear B0
    obtain ⟨i, rfl, hil, BW⟩ := hrel
    by_cases hlt : i < L.length
    · have hltI : (i : Int) < (L.length : Int) := by omega
      obtain ⟨b, off, rfl, rd0⟩ := HQ.out.resolve_left (fun e => by rw [e] at hlt; simp at hlt)
      obtain ⟨b1, off1, rfl, hb1, rp0⟩ := HP.out.resolve_left (fun e => by rw [← HE.out, e] at hlt; simp at hlt)
      have OKX := Lib.hid (prOk_get OK.out hlt)
      have B4 := Lib.hid BW.out.drew
      have hR := rowOf_half OKX.out.k.len OKX.out.l ((rd0.on OK.out B4.out) i hlt)
      have hR1 : rowOf wr.drew b1 (off1 + i * 64) 64 = prRow (L.getD i pr0).1 (L.getD i pr0).2 := by
        rw [← (KV.out i hlt).1, ← (KV.out i hlt).2, ← rp0 i (by rw [HE.out]; exact hlt)]
        unfold rowOf
        rw [B4.out.block b1 hb1]
      have hR1 := rowOf_half OKX.out.k.len OKX.out.l hR1
      have hS4 := And.intro hR hR1
      obtain ⟨x, hx⟩ : ∃ x, L.getD i pr0 = x := ⟨_, rfl⟩
      rw [hx] at OKX hS4
      have lK := OKX.out.k.len
      have lV := OKX.out.l
      have hlK := hc_len x.1
      have hlV := hc_len x.2
      have g0 : (0 : Int) ≤ (i : Int) := by omega
      clear rd0 rp0 hR hR1 BW hx
      go_upto_region 6 with fail
      refine wp_region_held_drew (S := fun W => (rowOf W b (off + i * 64) 32 = hc x.1 ∧ rowOf W b (off + i * 64 + 32) 32 = hc x.2) ∧ (rowOf W b1 (off1 + i * 64) 32 = hc x.1 ∧ rowOf W b1 (off1 + i * 64 + 32) 32 = hc x.2)) (by kernel_rfl) (hS4) (fun h0 => ?_)
      generalize wr.drew = w4 at *
      refine wpAnyH_take (i := 0) (v := ?_) (by rw [List.getElem?_toArray]; rfl) (by kernel_rfl) (by kernel_rfl) (by kernel_rfl) (by exact fun _ _ _ h => h) (Or.inl ⟨by rfl, ?_⟩) h0 ?_
      rotate_left
      · intro W hW
        go_simp
        all_goals with_reducible rfl
      try simp only [Act.put, List.setIfInBounds_toArray, List.set_cons_zero, List.set_cons_succ]
      refine wpAnyH_take (i := 1) (v := ?_) (by rw [List.getElem?_toArray]; rfl) (by kernel_rfl) (by kernel_rfl) (by kernel_rfl) (by exact fun _ _ _ h => h) (Or.inl ⟨by rfl, ?_⟩) h0 ?_
      rotate_left
      · intro W hW
        go_simp
        all_goals with_reducible rfl
      try simp only [Act.put, List.setIfInBounds_toArray, List.set_cons_zero, List.set_cons_succ]
      refine wpAnyH_take (i := 2) (v := ?_) (by rw [List.getElem?_toArray]; rfl) (by kernel_rfl) (by kernel_rfl) (by kernel_rfl) (by exact fun _ _ _ h => h) (Or.inl ⟨by rfl, ?_⟩) h0 ?_
      rotate_left
      · intro W hW
        go_simp
        all_goals with_reducible rfl
      try simp only [Act.put, List.setIfInBounds_toArray, List.set_cons_zero, List.set_cons_succ]
      refine wpAnyH_take (i := 3) (v := ?_) (by rw [List.getElem?_toArray]; rfl) (by kernel_rfl) (by kernel_rfl) (by kernel_rfl) (by exact fun _ _ _ h => h) (Or.inl ⟨by rfl, ?_⟩) h0 ?_
      rotate_left
      · intro W hW
        go_simp
        all_goals with_reducible rfl
      try simp only [Act.put, List.setIfInBounds_toArray, List.set_cons_zero, List.set_cons_succ]
      refine wpAnyH_take (i := 4) (v := ?_) (by rw [List.getElem?_toArray]; rfl) (by kernel_rfl) (by kernel_rfl) (by kernel_rfl) (by exact fun _ _ _ h => h) (Or.inl ⟨by rfl, ?_⟩) h0 ?_
      rotate_left
      · intro W hW
        have c1 := hW.2.1
        go_simp
        all_goals with_reducible rfl
      try simp only [Act.put, List.setIfInBounds_toArray, List.set_cons_zero, List.set_cons_succ]
      refine wpAnyH_take (i := 5) (v := ?_) (by rw [List.getElem?_toArray]; rfl) (by kernel_rfl) (by kernel_rfl) (by kernel_rfl) (by exact fun _ _ _ h => h) (Or.inl ⟨by rfl, ?_⟩) h0 ?_
      rotate_left
      · intro W hW
        go_simp
        all_goals with_reducible rfl
      try simp only [Act.put, List.setIfInBounds_toArray, List.set_cons_zero, List.set_cons_succ]
      refine wpAnyH_take (i := 6) (v := ?_) (by rw [List.getElem?_toArray]; rfl) (by kernel_rfl) (by kernel_rfl) (by kernel_rfl) (by exact fun _ _ _ h => h) (Or.inl ⟨by rfl, ?_⟩) h0 ?_
      rotate_left
      · intro W hW
        go_simp
        all_goals with_reducible rfl
      try simp only [Act.put, List.setIfInBounds_toArray, List.set_cons_zero, List.set_cons_succ]
      refine wpAnyH_take (i := 7) (v := ?_) (by rw [List.getElem?_toArray]; rfl) (by kernel_rfl) (by kernel_rfl) (by kernel_rfl) (by exact fun _ _ _ h => h) (Or.inl ⟨by rfl, ?_⟩) h0 ?_
      rotate_left
      · intro W hW
        go_simp
        all_goals with_reducible rfl
      try simp only [Act.put, List.setIfInBounds_toArray, List.set_cons_zero, List.set_cons_succ]
      refine wpAnyH_take (i := 8) (v := ?_) (by rw [List.getElem?_toArray]; rfl) (by kernel_rfl) (by kernel_rfl) (by kernel_rfl) (by exact fun _ _ _ h => h) (Or.inl ⟨by rfl, ?_⟩) h0 ?_
      rotate_left
      · intro W hW
        go_simp
        all_goals with_reducible rfl
      try simp only [Act.put, List.setIfInBounds_toArray, List.set_cons_zero, List.set_cons_succ]
      refine wpAnyH_take (i := 9) (v := ?_) (by rw [List.getElem?_toArray]; rfl) (by kernel_rfl) (by kernel_rfl) (by kernel_rfl) (by exact fun _ _ _ h => h) (Or.inl ⟨by rfl, ?_⟩) h0 ?_
      rotate_left
      · intro W hW
        have c2 := hW.1.1
        go_simp
        all_goals with_reducible rfl
      try simp only [Act.put, List.setIfInBounds_toArray, List.set_cons_zero, List.set_cons_succ]
      refine wpAnyH_take (i := 10) (v := ?_) (by rw [List.getElem?_toArray]; rfl) (by kernel_rfl) (by kernel_rfl) (by kernel_rfl) (by exact fun _ _ _ h => h) (Or.inl ⟨by rfl, ?_⟩) h0 ?_
      rotate_left
      · intro W hW
        go_simp
        all_goals with_reducible rfl
      try simp only [Act.put, List.setIfInBounds_toArray, List.set_cons_zero, List.set_cons_succ]
      refine wpAnyH_take (i := 11) (v := ?_) (by rw [List.getElem?_toArray]; rfl) (by kernel_rfl) (by kernel_rfl) (by kernel_rfl) (by exact fun _ _ _ h => h) (Or.inl ⟨by rfl, ?_⟩) h0 ?_
      rotate_left
      · intro W hW
        go_simp
        all_goals with_reducible rfl
      try simp only [Act.put, List.setIfInBounds_toArray, List.set_cons_zero, List.set_cons_succ]
      refine wpAnyH_take (i := 12) (v := ?_) (by rw [List.getElem?_toArray]; rfl) (by kernel_rfl) (by kernel_rfl) (by kernel_rfl) (by exact fun _ _ _ h => h) (Or.inl ⟨by rfl, ?_⟩) h0 ?_
      rotate_left
      · intro W hW
        go_simp
        all_goals with_reducible rfl
      try simp only [Act.put, List.setIfInBounds_toArray, List.set_cons_zero, List.set_cons_succ]
      refine wpAnyH_take (i := 13) (v := ?_) (by rw [List.getElem?_toArray]; rfl) (by kernel_rfl) (by kernel_rfl) (by kernel_rfl) (by exact fun _ _ _ h => h) (Or.inl ⟨by rfl, ?_⟩) h0 ?_
      rotate_left
      · intro W hW
        go_simp
        all_goals with_reducible rfl
      try simp only [Act.put, List.setIfInBounds_toArray, List.set_cons_zero, List.set_cons_succ]
      refine wpAnyH_take (i := 14) (v := ?_) (by rw [List.getElem?_toArray]; rfl) (by kernel_rfl) (by kernel_rfl) (by kernel_rfl) (by exact fun _ _ _ h => h) (Or.inl ⟨by rfl, ?_⟩) h0 ?_
      rotate_left
      · intro W hW
        go_simp
        all_goals with_reducible rfl
      try simp only [Act.put, List.setIfInBounds_toArray, List.set_cons_zero, List.set_cons_succ]
      refine wpAnyH_take (i := 15) (v := ?_) (by rw [List.getElem?_toArray]; rfl) (by kernel_rfl) (by kernel_rfl) (by kernel_rfl) (by exact fun _ _ _ h => h) (Or.inl ⟨by rfl, ?_⟩) h0 ?_
      rotate_left
      · intro W hW
        go_simp
        all_goals with_reducible rfl
      try simp only [Act.put, List.setIfInBounds_toArray, List.set_cons_zero, List.set_cons_succ]
      refine wpAnyH_take (i := 16) (v := ?_) (by rw [List.getElem?_toArray]; rfl) (by kernel_rfl) (by kernel_rfl) (by kernel_rfl) (by exact fun _ _ _ h => h) (Or.inl ⟨by rfl, ?_⟩) h0 ?_
      rotate_left
      · intro W hW
        have c1 := hW.2.2
        go_simp
        all_goals with_reducible rfl
      try simp only [Act.put, List.setIfInBounds_toArray, List.set_cons_zero, List.set_cons_succ]
      refine wpAnyH_take (i := 17) (v := ?_) (by rw [List.getElem?_toArray]; rfl) (by kernel_rfl) (by kernel_rfl) (by kernel_rfl) (by exact fun _ _ _ h => h) (Or.inl ⟨by rfl, ?_⟩) h0 ?_
      rotate_left
      · intro W hW
        go_simp
        all_goals with_reducible rfl
      try simp only [Act.put, List.setIfInBounds_toArray, List.set_cons_zero, List.set_cons_succ]
      refine wpAnyH_take (i := 18) (v := ?_) (by rw [List.getElem?_toArray]; rfl) (by kernel_rfl) (by kernel_rfl) (by kernel_rfl) (by exact fun _ _ _ h => h) (Or.inl ⟨by rfl, ?_⟩) h0 ?_
      rotate_left
      · intro W hW
        go_simp
        all_goals with_reducible rfl
      try simp only [Act.put, List.setIfInBounds_toArray, List.set_cons_zero, List.set_cons_succ]
      refine wpAnyH_take (i := 19) (v := ?_) (by rw [List.getElem?_toArray]; rfl) (by kernel_rfl) (by kernel_rfl) (by kernel_rfl) (by exact fun _ _ _ h => h) (Or.inl ⟨by rfl, ?_⟩) h0 ?_
      rotate_left
      · intro W hW
        go_simp
        all_goals with_reducible rfl
      try simp only [Act.put, List.setIfInBounds_toArray, List.set_cons_zero, List.set_cons_succ]
      refine wpAnyH_take (i := 20) (v := ?_) (by rw [List.getElem?_toArray]; rfl) (by kernel_rfl) (by kernel_rfl) (by kernel_rfl) (by exact fun _ _ _ h => h) (Or.inl ⟨by rfl, ?_⟩) h0 ?_
      rotate_left
      · intro W hW
        go_simp
        all_goals with_reducible rfl
      try simp only [Act.put, List.setIfInBounds_toArray, List.set_cons_zero, List.set_cons_succ]
      refine wpAnyH_take (i := 21) (v := ?_) (by rw [List.getElem?_toArray]; rfl) (by kernel_rfl) (by kernel_rfl) (by kernel_rfl) (by exact fun _ _ _ h => h) (Or.inl ⟨by rfl, ?_⟩) h0 ?_
      rotate_left
      · intro W hW
        have c2 := hW.1.2
        go_simp
        all_goals with_reducible rfl
      try simp only [Act.put, List.setIfInBounds_toArray, List.set_cons_zero, List.set_cons_succ]
      refine wpAnyH_take (i := 22) (v := ?_) (by rw [List.getElem?_toArray]; rfl) (by kernel_rfl) (by kernel_rfl) (by kernel_rfl) (by exact fun _ _ _ h => h) (Or.inl ⟨by rfl, ?_⟩) h0 ?_
      rotate_left
      · intro W hW
        go_simp
        all_goals with_reducible rfl
      try simp only [Act.put, List.setIfInBounds_toArray, List.set_cons_zero, List.set_cons_succ]
      refine wpAnyH_take (i := 23) (v := ?_) (by rw [List.getElem?_toArray]; rfl) (by kernel_rfl) (by kernel_rfl) (by kernel_rfl) (by exact fun _ _ _ h => h) (Or.inl ⟨by rfl, ?_⟩) h0 ?_
      rotate_left
      · intro W hW
        go_simp
        all_goals with_reducible rfl
      try simp only [Act.put, List.setIfInBounds_toArray, List.set_cons_zero, List.set_cons_succ]
      refine wpAnyH_done (by kernel_rfl) ?_ _
      clear h0
      go_wp2_with fail
      go_roundw
      case rel => exact ⟨i + 1, by go_num, by omega, B4⟩
      case measure => simp [intOf]; omega
    · have hltI : ¬ (i : Int) < (L.length : Int) := by omega
      go_wp2_with fail
      refine bodyPost_ret (v := .bool true) (by simp [results, Tryd.results17, go_sem]) rfl ?_
      exact ⟨rfl, BW.out⟩
end Go.Proofs.YtjlodnecdngdfaaDoor
namespace Go.Proofs.YtjlodnecdngdfaaDoor
open Go.RowKit
set_option maxRecDepth 100000

theorem FrS.base {w w1 wr : World} {v : Value} {xs : List Int} {n : Nat} (h : FrS w1 wr v xs n) (hb : Below w.heap.size w w1) : FrS w wr v xs n :=
  ⟨h.own, fun g hg => Nat.le_trans hb.size (h.fresh g hg), hb.trans (h.below.mono hb.size)⟩
end Go.Proofs.YtjlodnecdngdfaaDoor
namespace Go.Proofs.YtjlodnecdngdfaaDoor
open Go.RowKit
set_option maxRecDepth 100000

section
variable {α : Type} {P : World → Fp → α → List Value → Prop} {d : α} {n : Nat} {F G : Fp} {w W W' x : World} {T : TypeId} {v v2 : Value} {L M : List α} {done done2 : List Value}
end
/-- Strings in a row of the call's own, all of them laid behind N. -/
def TxS (N : Nat) (w wr : World) (v : Value) (Ls : List (List Int)) : Prop := ∃ done, OwF 1 [] PBs (fun g => N ≤ g) w wr 82 v Ls done
section
variable {N N' : Nat} {w w5 wr w' : World} {v : Value} {Ls : List (List Int)} {xs : List Int}
theorem TxS.nil (N : Nat) (hb : Below w.heap.size w wr) : TxS N w wr (.slice none 0 0) [] := ⟨[], OwF.start hb⟩
theorem TxS.on (h : TxS N w wr v Ls) (hb : Below wr.heap.size wr w') : TxS N w w' v Ls := by obtain ⟨d, h⟩ := h; exact ⟨d, h.on PBs_ok hb⟩
theorem TxS.below (h : TxS N w wr v Ls) : Below w.heap.size w wr := by obtain ⟨d, h⟩ := h; exact h.below
theorem TxS.slice (h : TxS N w wr v Ls) : ∃ q c, v = .slice q Ls.length c := by obtain ⟨d, h⟩ := h; exact h.slice
theorem TxS.base (h : TxS N w5 wr v Ls) (hb : Below w.heap.size w w5) (hN : N' ≤ N) : TxS N' w wr v Ls := by
  obtain ⟨d, h⟩ := h
  refine ⟨d, h.own, fun i hi => ?_, fun g hg => Nat.le_trans hb.size (h.fresh g hg), hb.trans (h.below.mono hb.size)⟩
  obtain ⟨r, h1, h2, h3⟩ := h.each i hi
  exact ⟨r, h1, h2, PBs_ok.mono h3 (fun g hg => ⟨Nat.le_trans hN hg.1, hg.2⟩)⟩
/-- A hash's block ahead of N is stored to. -/
theorem TxS.hash {b : Nat} {F : List Int} (h : TxS N w wr v Ls) (hh : HashAt wr b F) (hc : Chg wr w' [b]) (hN : b < N) (hb : w.heap.size ≤ b) : TxS N w w' v Ls := by
  obtain ⟨d, h⟩ := h
  exact ⟨d, h.chg PBs_ok hc (fun g hg hm => by rw [List.mem_singleton.1 hm] at hg; omega) (fun g hg hm => own_ne h.own hh (by decide) (by rw [hg, List.mem_singleton.1 hm])) (fun x hx => by rw [List.mem_singleton.1 hx]; exact hb)⟩
theorem own_lit1 (w : World) (e : TypeId) (u : Value) : (w.alloc (.cells #[u] e)).ownsRow 0 e 1 (.slice (some ⟨w.heap.size, 0, none⟩) 1 1) 1 [u] :=
  ⟨by simp, .inr ⟨w.heap.size, 1, #[u], rfl, Nat.zero_le _, heap_alloc_new w _, Nat.le_refl _, by unfold maxLen; omega, by simp, by simp⟩⟩
/-- A string of the call's own, as a cell. -/
theorem FrS.pbs {q : Option Addr} {n c : Nat} (h : FrS w5 wr (.slice q n c) xs n) {G : Fp} (hG : ∀ g, w5.heap.size ≤ g → g < wr.heap.size → G g) : PBs wr G xs [.slice q n c] := by
  have hl := h.len
  subst hl
  exact ⟨q, c, rfl, h.rd, fun _ g hg => hG g (h.fresh g hg) (own_lt h.own hg)⟩
/-- A literal of one string. -/
theorem TxS.lit {q : Option Addr} {n c : Nat} (h : FrS w5 wr (.slice q n c) xs n) (hb : Below w.heap.size w w5) (hN : N ≤ w5.heap.size) : TxS N w (wr.alloc (.cells #[.slice q n c] 82)) (.slice (some ⟨wr.heap.size, 0, none⟩) 1 1) [xs] := by
  have b1 : Below wr.heap.size wr (wr.alloc (.cells #[.slice q n c] 82)) := (Below.refl _ _).alloc (Nat.le_refl _) _
  refine ⟨[.slice q n c], own_lit1 wr _ _, fun i hi => ?_, fun g hg => ?_, (hb.trans (h.below.mono hb.size)).trans (b1.mono (by have := hb.size; have := h.below.size; omega))⟩
  · obtain rfl : i = 0 := by simpa using hi
    refine ⟨[.slice q n c], rfl, rfl, PBs_ok.on (h.pbs (fun g h1 h2 => ⟨Nat.le_trans hN h1, fun e => ?_⟩)) b1⟩
    obtain rfl : wr.heap.size = g := by simpa [Value.ownBlock] using e
    omega
  · obtain rfl : wr.heap.size = g := by simpa [Value.ownBlock] using hg
    have := hb.size; have := h.below.size; omega
/-- One string more: it was laid behind the row, and is appended as a literal. -/
theorem TxS.more {q q6 : Option Addr} {n c k6 : Nat} {done : List Value} (h : OwF 1 [] PBs (fun g => N ≤ g) w w5 82 v Ls done) (hN : N ≤ w5.heap.size) (hf : FrS w5 wr (.slice q n c) xs n)
    (own : w'.ownsRow 0 82 1 (.slice q6 (Ls.length + 1) k6) (Ls.length + 1) (done ++ [.slice q n c])) (grow : (wr.alloc (.cells #[.slice q n c] 82)).grownBy w' v.ownBlock) (fr : (Value.slice q6 (Ls.length + 1) k6).ownBlock = v.ownBlock ∨ (Value.slice q6 (Ls.length + 1) k6).ownBlock = some (wr.alloc (.cells #[.slice q n c] 82)).heap.size) :
    TxS N w w' (.slice q6 (Ls.length + 1) k6) (Ls ++ [xs]) := by
  have b1 : Below wr.heap.size wr (wr.alloc (.cells #[.slice q n c] 82)) := (Below.refl _ _).alloc (Nat.le_refl _) _
  have h2 := (h.on PBs_ok hf.below).on PBs_ok b1
  have hp := PBs_ok.on (hf.pbs (G := fun g => N ≤ g ∧ v.ownBlock ≠ some g) (fun g h3 h4 => ⟨Nat.le_trans hN h3, fun e => by have := own_lt h.own e; omega⟩)) b1
  exact ⟨_, h2.grow PBs_ok rfl hp own grow fr⟩
/-- A row of strings, as what is appended. -/
theorem TxS.src {q : Option Addr} {n c : Nat} {done : List Value} (h : wr.ownsRow 0 82 1 (.slice q n c) n done) (h1 : ∀ u ∈ done, u.oneCell' = true) : Src Tryd.prog 1 61 (.slice q n c) n done wr := by
  have hk := Tryd.underlying61
  rcases h.2 with ⟨e, h0⟩ | ⟨g, cap, cur, e, _, hg, hnc, hcm, hcs', htake⟩
  · simp only [Value.slice.injEq] at e
    obtain ⟨rfl, -, -⟩ := e
    have hd : done = [] := List.eq_nil_of_length_eq_zero (by rw [h.1, h0])
    rw [h0, hd]
    exact Src.ofNil wr hk c
  · simp only [Value.slice.injEq] at e
    obtain ⟨rfl, -, rfl⟩ := e
    refine Src.ofSlice wr hk _ _ _ _ h.1 (fun j u hu => ?_) h1
    rw [addr_add, Joins.cell_of_block hg, Nat.zero_add]
    have hj : j < done.length := by
      rcases Nat.lt_or_ge j done.length with h5 | h5
      · exact h5
      · rw [List.getElem?_eq_none h5] at hu; cases hu
    have e2 : cur.toList[j]? = some u := by
      have := congrArg (fun l => l[j]?) htake
      rw [List.getElem?_take_of_lt (by have := h.1; omega)] at this
      rw [this]; exact hu
    simpa using e2
end
/-- Behind a start: a block for a hash may be laid. -/
structure LfS (w1 W : World) (o : Option Nat) : Prop where
  below : Below w1.heap.size w1 W
  blk : ∀ b, o = some b → HashAt W b zero32 ∧ w1.heap.size ≤ b ∧ b < W.heap.size
theorem LfS.start (w1 : World) : LfS w1 w1 none := ⟨Below.refl _ _, fun b h => by cases h⟩
theorem LfS.of {w1 W : World} (h : Below w1.heap.size w1 W) : LfS w1 W none := ⟨h, fun b e => by cases e⟩
theorem LfS.on {w1 W W' : World} {o : Option Nat} (h : LfS w1 W o) (hb : Below W.heap.size W W') : LfS w1 W' o :=
  ⟨h.below.trans (hb.mono h.below.size), fun b e => ⟨(h.blk b e).1.on hb, (h.blk b e).2.1, Nat.lt_of_lt_of_le (h.blk b e).2.2 hb.size⟩⟩
theorem LfS.lay {w1 W : World} {o : Option Nat} (h : LfS w1 W o) : LfS w1 (W.alloc (.cells (hc zero32).toArray 24)) (some W.heap.size) :=
  ⟨h.below.alloc h.below.size _, fun b e => by
    obtain rfl := Option.some.inj e
    exact ⟨HashAt.new W zero32, h.below.size, by simp⟩⟩
def TtOk (Ls : List (List Int)) : Prop := ∀ s ∈ Ls, s.length = 85 ∧ Bytes s
theorem TtOk.nil : TtOk [] := fun s h => by cases h
theorem TtOk.app {A B : List (List Int)} (ha : TtOk A) (hb : TtOk B) : TtOk (A ++ B) := fun s h => (List.mem_append.1 h).elim (ha s) (hb s)
theorem TtOk.one {s : List Int} (h : s.length = 85) (b : Bytes s) : TtOk [s] := fun t ht => by rw [List.mem_singleton.1 ht]; exact ⟨h, b⟩
end Go.Proofs.YtjlodnecdngdfaaDoor
