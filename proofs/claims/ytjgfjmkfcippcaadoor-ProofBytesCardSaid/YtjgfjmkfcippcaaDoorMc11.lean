/-
  The law's copy of a proof, and its Same of a proof and its copy.; Package smt: New of one pair.; basculelaw06.knows answers true.; Steps: rows of 97 cells, each with a slice of hashes; the law's copy of them.
-/
import Derived.Test.YtjgfjmkfcippcaaDoorMc10
namespace Go.Proofs.YtjgfjmkfcippcaaDoor
set_option maxRecDepth 100000
open Go.RowKit

def pfPlaces : List (Nat × Nat) := [(0, 32), (32, 1)]
theorem Tryd.built_pf (ps : List (Nat × Value)) : Tryd.prog.built 30 ps = Instr.fill (fun i => pfPlaces.toArray[i]?) (pfRow zero32 (.slice none 0 0)).toArray ps := by kernel_rfl
@[go_sem ↓] theorem Tryd.build_pf (ps : Array (Nat × Value)) : Instr.build 30 ps = rowBuild 30 ps := rfl
@[go_sem] theorem Tryd.run_pf (w : World) (F : List Int) (q : Option Addr) (n k : Nat) (hF : F.length = 32) :
    (rowBuild 30 #[(0, .agg (hc F).toArray), (1, .slice q n k)]).run Tryd.prog w = .ok (.agg (pfRow F (.slice q n k)).toArray) w := by
  refine run_build w _ _ _ ?_
  rw [Tryd.built_pf]
  show Instr.fill _ _ ((0, Value.agg (hc F).toArray) :: (1, Value.slice q n k) :: []) = _
  have z1 : pfRow zero32 (.slice none 0 0) = [] ++ (hc zero32 ++ [.slice none 0 0]) := rfl
  rw [z1, fill_at (i := 0) (off := 0) (size := 32) (vs := hc F) rfl rfl rfl rfl (by rw [hc_len, hF])]
  rw [List.nil_append, show (hc F ++ [Value.slice none 0 0] : List Value) = hc F ++ ([.slice none 0 0] ++ []) by simp]
  rw [fill_at (i := 1) (off := 32) (size := 1) (vs := [.slice q n k]) rfl rfl (by rw [hc_len, hF]) rfl rfl]
  simp [pfRow, Instr.fill]
@[go_sem] theorem Tryd.run_pf0 (w : World) : (rowBuild 30 #[]).run Tryd.prog w = .ok (.agg (pfRow zero32 (.slice none 0 0)).toArray) w := by
  unfold rowBuild; kernel_rfl

set_option maxHeartbeats 8000000 in
theorem Proof_any {w : World} {M : List Int} {q : Option Addr} {k : Nat} {Ss : List (List Int)} (hM : M.length = 32) (hs : RdHs w q Ss) (ok : HsOk Ss) (hn : Ss.length * 32 ≤ 140737488355328) :
    Calls Tryd.prog 20 #[.agg (pfRow M (.slice q Ss.length k)).toArray] w fun e w' => ∃ q' k', e = .returned (.agg (pfRow M (.slice q' Ss.length k')).toArray) ∧ HsS w w' (.slice q' Ss.length k') Ss := by
  obtain ⟨i0, hi, hz0, hz1, hz2⟩ := info_parts Tryd.infoHs
  replace hi := Lib.hid hi
  replace hz0 := Lib.hid hz0
  replace hz1 := Lib.hid hz1
  replace hz2 := Lib.hid hz2
  have P1 := (PfB.new (t := 43) w M (.slice q Ss.length k)).alloc (.cells (pfRow zero32 (.slice none 0 0)).toArray 30)
  have P2 := PfB.new (t := 30) (w.alloc (.cells (pfRow M (.slice q Ss.length k)).toArray 43)) zero32 (.slice none 0 0)
  simp only [World.size_alloc] at P2
  have B0 := Lib.hid (((Below.refl w.heap.size w).alloc (Nat.le_refl _) (.cells (pfRow M (.slice q Ss.length k)).toArray 43)).alloc (by simp) (.cells (pfRow zero32 (.slice none 0 0)).toArray 30))
  have H1 := Lib.hid P1
  have H2 := Lib.hid P2
  have HS : Hid (∀ W, Below w.heap.size w W → RdHs W q Ss) := fun W hb => hs.on (fun i hi => (ok.get i hi).1) hb
  have HOK := Lib.hid ok
  have hlM := hc_len M
  have hlp := pfRow_len hM (.slice q Ss.length k)
  have z32 := zero32_len
  clear hs ok P1 P2
  go_enter Tryd.func20, Tryd.ntmps20
  go_wp2_with fail
  generalize (w.alloc (.cells (pfRow M (.slice q Ss.length k)).toArray 43)).alloc (.cells (pfRow zero32 (.slice none 0 0)).toArray 30) = w0 at *
  refine wp_region_held_drew (S := fun W => PfB 43 W w.heap.size M (.slice q Ss.length k)) (by kernel_rfl) (H1.out.on ((Below.refl _ _).drew)) (fun h0 => ?_)
  replace H1 := Lib.hid (H1.out.on ((Below.refl _ _).drew))
  replace H2 := Lib.hid (H2.out.on ((Below.refl _ _).drew))
  replace B0 := Lib.hid B0.out.drew
  generalize w0.drew = w0 at *
  refine wpAnyH_take (i := 0) (v := ?_) (by rw [List.getElem?_toArray]; rfl) (by kernel_rfl) (by kernel_rfl) (by kernel_rfl) (by exact fun _ _ _ h => h) (Or.inl ⟨by rfl, ?_⟩) h0 ?_
  rotate_left
  · intro W hW
    go_simp
    all_goals with_reducible rfl
  try simp only [Act.put, List.setIfInBounds_toArray, List.set_cons_zero, List.set_cons_succ]
  refine wpAnyH_take (i := 1) (v := ?_) (by rw [List.getElem?_toArray]; rfl) (by kernel_rfl) (by kernel_rfl) (by kernel_rfl) (by exact fun _ _ _ h => h) (Or.inl ⟨by rfl, ?_⟩) h0 ?_
  rotate_left
  · intro W hW
    have cm := hW.mask hM
    go_simp
    all_goals with_reducible rfl
  try simp only [Act.put, List.setIfInBounds_toArray, List.set_cons_zero, List.set_cons_succ]
  refine wpAnyH_take (i := 3) (v := ?_) (by rw [List.getElem?_toArray]; rfl) (by kernel_rfl) (by kernel_rfl) (by kernel_rfl) (by exact fun _ _ _ h => h) (Or.inl ⟨by rfl, ?_⟩) h0 ?_
  rotate_left
  · intro W hW
    go_simp
    all_goals with_reducible rfl
  try simp only [Act.put, List.setIfInBounds_toArray, List.set_cons_zero, List.set_cons_succ]
  refine wpAnyH_take (i := 4) (v := ?_) (by rw [List.getElem?_toArray]; rfl) (by kernel_rfl) (by kernel_rfl) (by kernel_rfl) (by exact fun _ _ _ h => h) (Or.inl ⟨by rfl, ?_⟩) h0 ?_
  rotate_left
  · intro W hW
    have cs := hW.sides hM
    go_simp
    all_goals with_reducible rfl
  try simp only [Act.put, List.setIfInBounds_toArray, List.set_cons_zero, List.set_cons_succ]
  refine wpAnyH_ready (rs := [2]) (by kernel_rfl) (by simp) ?_
  refine AllReadyH.cons (by rw [List.getElem?_toArray]; rfl) (fun K hK => ?_) AllReadyH.nil
  rw [if_pos (by rfl)]
  have b3 : Below w0.heap.size w0 (w0.alloc (.cells #[] 23)) := (Below.refl _ _).alloc (Nat.le_refl _) _
  have B3 := Lib.hid (B0.out.trans (b3.mono B0.out.size))
  have O3 := Lib.hid (own_empty w0 23 32)
  have G3 := Lib.hid (H1.out.on b3)
  have R3 := Lib.hid (H2.out.on b3)
  clear b3
  go_wp2_with fail
  refine hK.out _ _ (G3.out) (fun h4 => ?_)
  clear hK K
  try simp only [Act.put, List.setIfInBounds_toArray, List.set_cons_zero, List.set_cons_succ]
  generalize hW3 : w0.alloc (.cells #[] 23) = w3 at *
  clear hW3
  refine wpAnyH_ready (rs := [5]) (by kernel_rfl) (by simp) ?_
  refine AllReadyH.cons (by rw [List.getElem?_toArray]; rfl) (fun K hK => ?_) AllReadyH.nil
  rw [if_pos (by rfl)]
  refine wp_append_row _ _ rfl Tryd.underlying28 hi.out hz0.out hz1.out hz2.out zero_cells (show w3.ownsRow 0 _ 32 (.slice (some ⟨w0.heap.size, 0, none⟩) 0 0) 0 [] from O3.out) ((HS.out _ B3.out).src (P := Tryd.prog) HOK.out Tryd.underlying28) ?b1 ?b2 ?_
  case b1 => unfold maxLen; omega
  case b2 => omega
  intro q6 k6 w6 own6 grow6' fr6'
  have grow6 : w3.grownBy w6 (Value.slice (some ⟨w0.heap.size, 0, none⟩) 0 0).ownBlock := grow6'
  have fr6 : (Value.slice q6 (0 + Ss.length) k6).ownBlock = (Value.slice (some ⟨w0.heap.size, 0, none⟩) 0 0).ownBlock ∨ (Value.slice q6 (0 + Ss.length) k6).ownBlock = some w3.heap.size := fr6'
  have hsz3 : w.heap.size ≤ w0.heap.size := B0.out.size
  have G6 : Below w.heap.size w w6 := B3.out.grown grow6 B3.out.size (fun g hg => by simp [Value.ownBlock] at hg; omega)
  have hs0 : w.heap.size + 1 < w0.heap.size := H2.out.lt
  have K6 : Chg w3 w6 [w0.heap.size] := Chg.grown grow6 (fun k hk => by simp [Value.ownBlock] at hk; simp [hk])
  have S6 := Lib.hid (G3.out.chg K6 (by simp; omega))
  have R6 := Lib.hid (R3.out.chg K6 (by simp; omega))
  have HN : Hid (HsS w w6 (.slice q6 Ss.length k6) Ss) := by
    refine ⟨?_, HOK.out, fun g hg => ?_, G6⟩
    · have := own6; simp only [Nat.zero_add, List.nil_append] at this; exact this
    · rcases fr6 with e | e
      · simp only [Nat.zero_add] at e
        rw [e] at hg; simp [Value.ownBlock] at hg; omega
      · simp only [Nat.zero_add] at e
        rw [e] at hg; simp at hg; have := B3.out.size; omega
  simp only [Nat.zero_add]
  clear own6 grow6 fr6 grow6' fr6' G6 K6
  refine hK.out _ _ (S6.out) (fun h7 => ?_)
  clear hK K
  try simp only [Act.put, List.setIfInBounds_toArray, List.set_cons_zero, List.set_cons_succ]
  refine wpAnyH_take (i := 6) (v := ?_) (by rw [List.getElem?_toArray]; rfl) (by kernel_rfl) (by kernel_rfl) (by kernel_rfl) (by exact fun _ _ _ h => h) (Or.inl ⟨by rfl, ?_⟩) h7 ?_
  rotate_left
  · intro W hW
    go_simp
    all_goals with_reducible rfl
  try simp only [Act.put, List.setIfInBounds_toArray, List.set_cons_zero, List.set_cons_succ]
  refine wpAnyH_ready (rs := [7]) (by kernel_rfl) (by simp) ?_
  refine AllReadyH.cons (by rw [List.getElem?_toArray]; rfl) (fun K hK => ?_) AllReadyH.nil
  rw [if_pos (by rfl)]
  have th := R6.out.there zero32_len
  have S8 := S6.out.others (k := w.heap.size + 1) (by omega) 0 (pfRow M (.slice q6 Ss.length k6))
  have R8 := R6.out.put zero32_len hM (.slice q6 Ss.length k6)
  have hput := R8.whole hM
  have hlp8 := pfRow_len hM (.slice q6 Ss.length k6)
  have hne : (Value.slice q6 Ss.length k6).ownBlock ≠ some (w.heap.size + 1) := own_ne HN.out.own R6.out (by decide)
  have HF : Hid (HsS w (w6.setCells (w.heap.size + 1) 0 (pfRow M (.slice q6 Ss.length k6))) (.slice q6 Ss.length k6) Ss) := by
    refine ⟨own_keep HN.out.own (fun j hj => ?_), HN.out.ok, HN.out.fresh, below_setCells' _ (by omega) _ _ HN.out.below⟩
    exact setCells_other (fun e => hne (by rw [hj, e])) _ _ _
  clear R8 hne
  go_wp2_with fail
  refine hK.out _ _ (S8) (fun h9 => ?_)
  clear hK K
  try simp only [Act.put, List.setIfInBounds_toArray, List.set_cons_zero, List.set_cons_succ]
  refine wpAnyH_done (by kernel_rfl) ?_ _
  clear h9 h0 h4 h7 S8
  go_wp2_with fail
  refine bodyPost_ret (v := .agg (pfRow M (.slice q6 Ss.length k6)).toArray) (by simp [results, Tryd.results20, go_sem, hput, hlp8]) rfl ⟨q6, k6, rfl, HF.out⟩

/-- What Same reads. -/
structure SbS (w wr : World) (M : List Int) (q q' : Option Addr) (k k' : Nat) (Ss : List (List Int)) : Prop where
  below : Below w.heap.size w wr
  hA : PfB 30 wr w.heap.size M (.slice q Ss.length k)
  hB : PfB 43 wr (w.heap.size + 1) M (.slice q' Ss.length k')
  rA : RdHs wr q Ss
  rB : RdHs wr q' Ss
theorem SbS.drewN {w wr : World} {M : List Int} {q q' : Option Addr} {k k' : Nat} {Ss : List (List Int)} (h : SbS w wr M q q' k k' Ss) (n : Nat) : SbS w (wr.drewN n) M q q' k k' Ss :=
  ⟨below_drewN h.below n, h.hA, h.hB, h.rA, h.rB⟩
set_option maxHeartbeats 8000000 in
theorem Same5_any {w : World} {M : List Int} {q q' : Option Addr} {k k' : Nat} {Ss : List (List Int)} (hM : M.length = 32) (hs : RdHs w q Ss) (hs' : RdHs w q' Ss) (ok : HsOk Ss) (hn : Ss.length ≤ 140737488355328) :
    Calls Tryd.prog 30 #[.agg (pfRow M (.slice q Ss.length k)).toArray, .agg (pfRow M (.slice q' Ss.length k')).toArray] w fun e w' => e = .returned (.bool true) ∧ Below w.heap.size w w' := by
  have P1 := (PfB.new (t := 30) w M (.slice q Ss.length k)).alloc (.cells (pfRow M (.slice q' Ss.length k')).toArray 43)
  have P2 := PfB.new (t := 43) (w.alloc (.cells (pfRow M (.slice q Ss.length k)).toArray 30)) M (.slice q' Ss.length k')
  simp only [World.size_alloc] at P2
  have B0 := (((Below.refl w.heap.size w).alloc (Nat.le_refl _) (.cells (pfRow M (.slice q Ss.length k)).toArray 30)).alloc (by simp) (.cells (pfRow M (.slice q' Ss.length k')).toArray 43))
  have HL : Hid (∀ i, i < Ss.length → (Ss.getD i []).length = 32) := fun i hi => (ok.get i hi).1
  have S0 : Hid (SbS w _ M q q' k k' Ss) := Lib.hid ⟨B0, P1, P2, hs.on HL.out B0, hs'.on HL.out B0⟩
  have m1 := P1.mask hM
  have m2 := P2.mask hM
  have s1 := P1.sides hM
  have s2 := P2.sides hM
  have hlM := hc_len M
  have dM : (M == M) = true := beq_self_eq_true _
  clear P1 P2 hs hs' ok B0
  go_enter Tryd.func30, Tryd.ntmps30
  go_wp2_with fail
  go_loopw [5] (fun iv wr => ∃ i : Nat, iv = .int .i64 (i : Int) ∧ i ≤ Ss.length ∧ Hid (SbS w wr M q q' k k' Ss)) (fun iv _ => Ss.length - (intOf iv).toNat)
  case atStart => exact ⟨0, rfl, by omega, S0⟩
  case round =>
    clear S0 m1 m2 s1 s2
    obtain ⟨i, rfl, hi, hS⟩ := hrel
    have c2 := hS.out.hA.sides hM
    have d2 := hS.out.hB.sides hM
    by_cases hlt : i < Ss.length
    · have hne : Ss ≠ [] := fun e => by rw [e] at hlt; simp at hlt
      obtain ⟨b, off, rfl, hx⟩ := hS.out.rA.resolve_left hne
      obtain ⟨b', off', rfl, hx'⟩ := hS.out.rB.resolve_left hne
      have r1 := hx i hlt
      have r2 := hx' i hlt
      have hl := HL.out i hlt
      have lc := hc_len (Ss.getD i [])
      obtain ⟨F, hF⟩ : ∃ F, Ss.getD i [] = F := ⟨_, rfl⟩
      rw [hF] at r1 r2 hl lc
      have dg : (F == F) = true := by simp
      clear hx hx' hne hF
      go_wp2_with fail
      go_region
      go_wp2_with fail
      go_roundw
      case rel => exact ⟨i + 1, by go_num, by omega, Lib.hid (hS.out.drewN _)⟩
      case measure => simp [intOf]; omega
    · obtain rfl : i = Ss.length := by omega
      have BE := Lib.hid hS.out.below
      clear hS
      go_wp2_with fail
      go_ret
      exact ⟨rfl, BE.out⟩
end Go.Proofs.YtjgfjmkfcippcaaDoor
namespace Go.Proofs.YtjgfjmkfcippcaaDoor
set_option maxRecDepth 100000
open Go.RowKit

def prRow (K V : List Int) : List Value := hc K ++ (hc V ++ [])
theorem prRow_len {K V : List Int} (hK : K.length = 32) (hV : V.length = 32) : (prRow K V).length = 64 := by simp [prRow, hc_len, hK, hV]
def PrB (w : World) (b : Nat) (K V : List Int) : Prop := w.heap[b]? = some (.cells (prRow K V).toArray 93 (0, 0))
section
variable {w w' : World} {b : Nat} {K V : List Int}
theorem PrB.lt (h : PrB w b K V) : b < w.heap.size := (Array.getElem?_eq_some_iff.1 h).1
theorem PrB.new (w : World) (K V : List Int) : PrB (w.alloc (.cells (prRow K V).toArray 93)) w.heap.size K V := heap_alloc_new w _
theorem PrB.on (h : PrB w b K V) (hb : Below w.heap.size w w') : PrB w' b K V := by
  unfold PrB
  rw [hb.block b h.lt]; exact h
theorem PrB.whole (h : PrB w b K V) (hK : K.length = 32) (hV : V.length = 32) : rowOf w b 0 64 = prRow K V := by
  rw [rowOf_block h]
  have := prRow_len hK hV
  simp [List.take_of_length_le (Nat.le_of_eq this)]
theorem PrB.key (h : PrB w b K V) (hK : K.length = 32) : rowOf w b 0 32 = hc K := by
  rw [rowOf_block h]
  simp [prRow, hc_len, hK]
theorem PrB.val (h : PrB w b K V) (hK : K.length = 32) (hV : V.length = 32) : rowOf w b 32 32 = hc V := by
  rw [rowOf_block h]
  have := take_midd (hc K) (hc V) [] (o := 32) (n := 32) (by simp [hc_len, hK]) (by simp [hc_len, hV])
  simpa [prRow] using this
theorem PrB.there (h : PrB w b K V) (hK : K.length = 32) (hV : V.length = 32) : w.there b 0 64 := fun j hj => by
  refine ⟨?_, Joins.unfrozen_of_block h _⟩
  rw [cell_of_row _ _ _ _ _ _ h]
  have := prRow_len hK hV
  simp [this]; omega
theorem PrB.put (h : PrB w b K V) (hK : K.length = 32) (hV : V.length = 32) {K' V' : List Int} (hK' : K'.length = 32) (hV' : V'.length = 32) : PrB (w.setCells b 0 (prRow K' V')) b K' V' := by
  have := setCells_block (b := b) (t := 93) (fr := (0, 0)) (prRow K' V') (o := 0) (w := w) (pre := []) (mid := prRow K V) (post := []) (by simpa [PrB] using h) rfl (by rw [prRow_len hK hV, prRow_len hK' hV'])
  simpa [PrB] using this
end
theorem pr_one (K V : List Int) : (prRow K V).toArray.all (·.oneCell') = true := by
  refine all_oneCell_toArray fun u hu => ?_
  simp only [prRow, List.mem_append, List.not_mem_nil, or_false] at hu
  rcases hu with hu | hu
  all_goals exact (Array.all_eq_true_iff_forall_mem.1 (hc_one _)) u (by simpa using hu)
@[go_sem ↓] theorem load64p (a : Addr) : loadCellsFrom a 0 64 #[] = rowLoad a 64 := rfl
theorem run_storeCells_pr {P : Program} (w : World) (b : Nat) (K V : List Int) (hK : K.length = 32) (hV : V.length = 32) (ht : w.there b 0 64) : (storeCells ⟨b, 0, none⟩ (prRow K V) 0).run P w = .ok () (w.setCells b 0 (prRow K V)) := by
  have e := prRow_len hK hV
  have := run_storeCells_cells (P := P) b 0 (prRow K V) 0 w (fun j hj => by rw [e] at hj; simpa using (ht j hj).1) (fun j hj => by rw [e] at hj; simpa using (ht j hj).2) (fun u hu => (Array.all_eq_true_iff_forall_mem.1 (pr_one K V)) u (by simpa using hu))
  simpa using this
theorem prRow_len' {K V : List Int} (hK : K.length = 32) (hV : V.length = 32) : (prRow K V).length = 64 := prRow_len hK hV
@[go_sem ↓] theorem Tryd.zero_pr (w : World) : (zeroValue 93).run Tryd.prog w = .ok (.agg (prRow zero32 zero32).toArray) w := by kernel_rfl
def prPlaces : List (Nat × Nat) := [(0, 32), (32, 32)]
theorem Tryd.built_pr (ps : List (Nat × Value)) : Tryd.prog.built 93 ps = Instr.fill (fun i => prPlaces.toArray[i]?) (prRow zero32 zero32).toArray ps := by kernel_rfl
@[go_sem ↓] theorem Tryd.build_pr (ps : Array (Nat × Value)) : Instr.build 93 ps = rowBuild 93 ps := rfl
@[go_sem] theorem Tryd.run_pr (w : World) (K V : List Int) (hK : K.length = 32) (hV : V.length = 32) :
    (rowBuild 93 #[(0, .agg (hc K).toArray), (1, .agg (hc V).toArray)]).run Tryd.prog w = .ok (.agg (prRow K V).toArray) w := by
  refine run_build w _ _ _ ?_
  rw [Tryd.built_pr]
  show Instr.fill _ _ ((0, Value.agg (hc K).toArray) :: (1, Value.agg (hc V).toArray) :: []) = _
  have z1 : prRow zero32 zero32 = [] ++ (hc zero32 ++ (hc zero32 ++ [])) := rfl
  rw [z1, fill_at (i := 0) (off := 0) (size := 32) (vs := hc K) rfl rfl rfl rfl (by rw [hc_len, hK])]
  rw [List.nil_append]
  rw [fill_at (i := 1) (off := 32) (size := 32) (vs := hc V) rfl rfl (by rw [hc_len, hK]) rfl (by rw [hc_len, hV])]
  rfl
/-- A new row of one element. -/
theorem run_bs_one {P : Program} {t e : TypeId} {n : Nat} {zs xs : List Value} (w : World) (ht : P.underlying t = some (.slice e)) (hs : (sizeOf e).run P w = .ok n w) (hz : (zeroValue e).run P w = .ok (.agg zs.toArray) w)
    (hn : 0 < n) (hm : n ≤ 65536) (hx : xs.length = n) :
    (Instr.buildSlice t 1 #[(0, .agg xs.toArray)]).run P w = .ok (.slice (some ⟨w.heap.size, 0, none⟩) 1 1) (w.alloc (.cells xs.toArray e)) := by
  have hf : ∀ m : List Value, m.length = n → Instr.fill (fun i => some (i * n, n)) m.toArray #[(0, Value.agg xs.toArray)].toList = some xs.toArray := by
    intro m hm
    have := fill_at (place := fun i => some (i * n, n)) (rest := []) (i := 0) (off := 0) (size := n) (v := .agg xs.toArray) (pre := []) (mid := m) (post := []) (vs := xs) (by simp) rfl rfl hm hx
    simpa [Instr.fill] using this
  have hf' := hf ((Array.range (1 * n)).map (zs.toArray[· % zs.toArray.size]!)).toList (by simp)
  rw [Array.toArray_toList] at hf'
  unfold Instr.buildSlice
  simp only [Sem.run_bind, run_underlying ht, Result.andThen_ok, hs]
  rw [if_neg (by omega)]
  rw [if_neg (by omega)]
  simp only [Sem.run_bind, Sem.run_pure, Result.andThen_ok, hz, Value.cells]
  rw [hf']
  simp [newRow]
def rowNew (t : TypeId) (ps : Array (Nat × Value)) : Sem Value := Instr.buildSlice t 1 ps
@[go_sem ↓] theorem Tryd.slice_pr (ps : Array (Nat × Value)) : Instr.buildSlice 37 1 ps = rowNew 37 ps := rfl
@[go_sem] theorem Tryd.run_slice_pr (w : World) (K V : List Int) (hK : K.length = 32) (hV : V.length = 32) :
    (rowNew 37 #[(0, .agg (prRow K V).toArray)]).run Tryd.prog w = .ok (.slice (some ⟨w.heap.size, 0, none⟩) 1 1) (w.alloc (.cells (prRow K V).toArray 93)) :=
  run_bs_one w Tryd.underlying37 (by kernel_rfl) (Tryd.zero_pr w) (n := 64) (by decide) (by decide) (prRow_len hK hV)

theorem zero_unit (w : World) : (zeroValue 123).run Tryd.prog w = .ok (.agg #[]) w := by kernel_rfl
def U1 : Array MapEntry := #[{ key := .agg (hc K1).toArray, val := .agg #[], born := 0 }]
theorem look_u0 {w : World} {b : Nat} (hb : w.heap[b]? = some (.map #[] 0)) : (Instr.lookup 122 (.map (some b)) (.agg (hc K1).toArray) true).run Tryd.prog w = .ok (.tuple #[.agg #[], .bool false]) w :=
  run_lookup_at (r := none) true Tryd.underlying122 hb (ck_k1 _ w) (by kernel_rfl) (zero_unit w)
theorem upd_u0 {w : World} {b : Nat} (hb : w.heap[b]? = some (.map #[] 0)) : (Instr.mapUpdate 122 (.map (some b)) (.agg (hc K1).toArray) (.agg #[])).run Tryd.prog w = .ok () (putMap w b U1 1) :=
  run_mapUpdate_new Tryd.underlying122 hb (ck_k1 _ w) (by kernel_rfl)

set_option maxHeartbeats 8000000 in
theorem New_one {w : World} {b : Nat} (hb : PrB w b K1 V2) : Calls Tryd.prog 46 #[.slice (some ⟨b, 0, none⟩) 1 1] w fun e w' => ∃ p m nb, e = .returned (.tuple #[.pointer (some ⟨p, 0, none⟩), .int .i64 0]) ∧ w.heap.size ≤ p ∧ w.heap.size ≤ m ∧ w.heap.size ≤ nb ∧ p ≠ nb ∧ m ≠ nb ∧ Below w.heap.size w w' ∧ MpS w' p m (M1 (.agg (hc V2).toArray)) 1 (some ⟨nb, 0, none⟩) ∧ NdB w' nb ⟨K1, 256, none, none, zero32, false, zero32, 0, false⟩ := by
  have hmm := @run_makeMap Tryd.prog
  have B3 := Lib.hid ((((Below.refl w.heap.size w).alloc (Nat.le_refl _) (.map #[] 0)).alloc (by simp) (.cells #[.map (some w.heap.size), .pointer none] 42)).alloc (by simp; omega) (.map #[] 0))
  have M3 : Hid (MpS (((w.alloc (.map #[] 0)).alloc (.cells #[.map (some w.heap.size), .pointer none] 42)).alloc (.map #[] 0)) (w.heap.size + 1) w.heap.size #[] 0 none) := by
    refine ⟨?_, ?_⟩
    · rw [Below.heap_alloc _ _ _ (by simp)]
      have := heap_alloc_new (w.alloc (.map #[] 0)) (.cells #[.map (some w.heap.size), .pointer none] 42)
      simpa using this
    · rw [Below.heap_alloc _ _ _ (by simp; omega), Below.heap_alloc _ _ _ (by simp)]
      exact heap_alloc_new w _
  have E3 : Hid ((((w.alloc (.map #[] 0)).alloc (.cells #[.map (some w.heap.size), .pointer none] 42)).alloc (.map #[] 0)).heap[w.heap.size + 1 + 1]? = some (.map #[] 0)) := by
    have := heap_alloc_last ((w.alloc (.map #[] 0)).alloc (.cells #[.map (some w.heap.size), .pointer none] 42)) (.map #[] 0)
    show _ = _
    simpa using this
  have P3 := Lib.hid (hb.on B3.out)
  have hs3 : Hid ((((w.alloc (.map #[] 0)).alloc (.cells #[.map (some w.heap.size), .pointer none] 42)).alloc (.map #[] 0)).heap.size = w.heap.size + 3) := by show _ = _; simp
  have hbw := hb.lt
  have z32 := zero32_len
  have k32 := K1_len
  have v32 := V2_len
  have hlk := hc_len K1
  have hlv := hc_len V2
  clear hb
  go_enter Tryd.func46, Tryd.ntmps46
  go_wp2_with fail
  clear hmm
  generalize ((w.alloc (.map #[] 0)).alloc (.cells #[.map (some w.heap.size), .pointer none] 42)).alloc (.map #[] 0) = w3 at *
  refine wp_loop_rounds 2 ?_
  rw [rounds_succ]
  have r3 := P3.out.whole K1_len V2_len
  have A4 := PrB.new w3 zero32 zero32
  have th4 := A4.there zero32_len zero32_len
  have P4 := A4.put zero32_len zero32_len K1_len V2_len
  have k4 := P4.key K1_len
  have B4 : Below w3.heap.size w3 ((w3.alloc (.cells (prRow zero32 zero32).toArray 93)).setCells w3.heap.size 0 (prRow K1 V2)) := below_setCells' _ (Nat.le_refl _) _ _ ((Below.refl _ _).alloc (Nat.le_refl _) _)
  have hle : w.heap.size + 1 + 1 < w3.heap.size := by have := hs3.out; omega
  have E4 : ((w3.alloc (.cells (prRow zero32 zero32).toArray 93)).setCells w3.heap.size 0 (prRow K1 V2)).heap[w.heap.size + 1 + 1]? = some (.map #[] 0) := by rw [B4.block _ hle]; exact E3.out
  have hl4 := look_u0 E4
  have hst := run_storeCells_pr (P := Tryd.prog) _ w3.heap.size K1 V2 K1_len V2_len th4
  have hsz4 : ((w3.alloc (.cells (prRow zero32 zero32).toArray 93)).setCells w3.heap.size 0 (prRow K1 V2)).heap.size = w3.heap.size + 1 := by rw [size_setCells]; simp
  have hpl := prRow_len K1_len V2_len
  have hb5 : Below ((w3.alloc (.cells (prRow zero32 zero32).toArray 93)).setCells w3.heap.size 0 (prRow K1 V2)).heap.size ((w3.alloc (.cells (prRow zero32 zero32).toArray 93)).setCells w3.heap.size 0 (prRow K1 V2)) (((w3.alloc (.cells (prRow zero32 zero32).toArray 93)).setCells w3.heap.size 0 (prRow K1 V2)).alloc (.cells #[] 123)) := (Below.refl _ _).alloc (Nat.le_refl _) _
  have P5 := P4.on hb5
  have k5 := P5.key K1_len
  have E5 : (((w3.alloc (.cells (prRow zero32 zero32).toArray 93)).setCells w3.heap.size 0 (prRow K1 V2)).alloc (.cells #[] 123)).heap[w.heap.size + 1 + 1]? = some (.map #[] 0) := by rw [hb5.block _ (by rw [hsz4]; omega)]; exact E4
  have hu5 := upd_u0 E5
  have B5 := Lib.hid (B3.out.trans ((B4.trans (hb5.mono B4.size)).mono B3.out.size))
  have M5 := Lib.hid (M3.out.on (B4.trans (hb5.mono B4.size)))
  have Q5 := Lib.hid P5
  have Q4 := Lib.hid E5
  clear A4 P4 E4 hb5 P5 E5 B4 th4
  obtain ⟨R, hR⟩ : ∃ R, prRow K1 V2 = R := ⟨_, rfl⟩
  rw [hR] at r3 hst k4 hl4 hsz4 hpl k5 hu5 B5 M5 Q5 Q4
  clear hR
  go_wp2_with fail
  have hq : w.heap.size + 1 + 1 < (((w3.alloc (.cells (prRow zero32 zero32).toArray 93)).setCells w3.heap.size 0 R).alloc (.cells #[] 123)).heap.size := by simp [hsz4]; omega
  have Q6 : Hid (PrB (putMap (((w3.alloc (.cells (prRow zero32 zero32).toArray 93)).setCells w3.heap.size 0 R).alloc (.cells #[] 123)) (w.heap.size + 1 + 1) U1 1) w3.heap.size K1 V2) := by
    show _ = _
    rw [putMap_other (by omega)]; exact Q5.out
  have B6 : Hid (Below w.heap.size w (putMap (((w3.alloc (.cells (prRow zero32 zero32).toArray 93)).setCells w3.heap.size 0 R).alloc (.cells #[] 123)) (w.heap.size + 1 + 1) U1 1)) := by
    have h := (Chg.below B5.out (Nat.le_refl _) []).putMap (b := w.heap.size + 1 + 1) (.inr (by omega)) U1 1
    exact h.toBelow (Nat.le_refl _) (by simp)
  have M6 : Hid (MpS (putMap (((w3.alloc (.cells (prRow zero32 zero32).toArray 93)).setCells w3.heap.size 0 R).alloc (.cells #[] 123)) (w.heap.size + 1 + 1) U1 1) (w.heap.size + 1) w.heap.size #[] 0 none) :=
    ⟨by rw [putMap_other (by omega)]; exact M5.out.blk, by rw [putMap_other (by omega)]; exact M5.out.mp⟩
  have k6 := Q6.out.key K1_len
  have v6 := Q6.out.val K1_len V2_len
  clear Q5 B5 M5 hq hu5 k5 hst k4 hl4 hsz4 r3 Q4
  generalize putMap (((w3.alloc (.cells (prRow zero32 zero32).toArray 93)).setCells w3.heap.size 0 R).alloc (.cells #[] 123)) (w.heap.size + 1 + 1) U1 1 = w6 at *
  have e1 := run_rowLoad (P := Tryd.prog) w6 w3.heap.size 0 32 (by rw [k6]; simp [hc_len, K1_len])
  rw [k6] at e1
  rw [e1]
  simp only [Result.andThen_ok]
  clear e1
  go_wp2_with fail
  refine (Put_new V2_len (by simp [V2, zero32]) (by simp [V2, zero32]) M6.out).mono ?_
  rintro e w7 ⟨rfl, hc7, nb, hnb, hM7, hN7⟩
  have h6 := B6.out.size
  have B7 := Lib.hid (B6.out.trans (hc7.toBelow B6.out.size (by intro x hx; simp at hx; omega)))
  have M7 := Lib.hid hM7
  have N7 := Lib.hid hN7
  have hlp6 := M6.out.lp
  have hlm6 := M6.out.lm
  clear hc7 hM7 hN7 k6 v6 Q6 B6 M6
  go_wp2_with fail
  rw [rounds_succ]
  go_wp2_with fail
  refine bodyPost_ret (v := .tuple #[.pointer (some ⟨w.heap.size + 1, 0, none⟩), .int .i64 0]) (by simp [results, Tryd.results46, go_sem]) rfl ⟨_, _, nb, rfl, by omega, by omega, by omega, by omega, by omega, B7.out, M7.out, N7.out⟩
end Go.Proofs.YtjgfjmkfcippcaaDoor
namespace Go.Proofs.YtjgfjmkfcippcaaDoor
set_option maxRecDepth 100000
open Go.RowKit

theorem num6_any (n : Int) (w : World) : Calls Tryd.prog 27 #[.int .i64 n] w fun e w' => e = .returned (.int .i64 n) ∧ w' = w := by
  go_enter Tryd.func27, Tryd.ntmps27
  go_wp2_with fail
  go_ret
  exact ⟨rfl, rfl⟩
theorem zero32_get (j : Nat) : zero32.getD j 0 = 0 := by
  by_cases hj : j < 32
  · have : ∀ n : Fin 32, zero32.getD n.val 0 = 0 := by decide
    exact this ⟨j, hj⟩
  · simp [List.getD, zero32_len, hj]
theorem bitI_zero (i : Nat) : bitI zero32 i = 0 := by unfold bitI; rw [zero32_get]; simp
theorem cntI_zero : ∀ n, cntI zero32 n = 0
  | 0 => rfl
  | n + 1 => by simp [cntI, cntI_zero n, bitI_zero]
theorem ok_zero : okS zero32 [] = true := decide_eq_true ⟨by rw [cntI_zero]; rfl, by simp⟩
theorem sd_zero (l : Nat) : sdI zero32 [] l = zero32 := by unfold sdI; rw [bitI_zero]; rfl
theorem upS_zero (K h : List Int) : ∀ k, upS K zero32 [] h k = upH K 256 h k
  | 0 => rfl
  | k + 1 => by
    rw [upS, upH, upS_zero K h k]
    unfold stpS stp
    rw [sd_zero]
theorem root_zero (K V : List Int) : rootH K V zero32 [] = upH K 256 (lfH K V) 256 := by unfold rootH; rw [if_pos ok_zero, upS_zero]
theorem root_none (K : List Int) : rootH K zero32 zero32 [] = zero32 := by rw [root_zero, lfH_zero, upH_zero]
theorem ck_none : ckS zero32 K1 zero32 zero32 [] = true := by unfold ckS; rw [ok_zero, root_none]; simp
theorem kn_u : updH zero32 K1 zero32 V2 zero32 [] = upH K1 256 (lfH K1 V2) 256 := by unfold updH; rw [if_pos ok_zero, if_pos ck_none, root_zero]
theorem kn_e : updE zero32 K1 zero32 zero32 [] = 0 := by unfold updE; rw [if_pos ok_zero, if_pos ck_none]
theorem kn_c1 {R : List Int} (h : upH K1 256 (lfH K1 V2) 256 = R) : ckS R K1 V2 zero32 [] = true := by unfold ckS; rw [ok_zero, root_zero, h]; simp
theorem kn_c2 {R : List Int} (h : (R == zero32) = false) : ckS R K1 zero32 zero32 [] = false := by
  unfold ckS
  rw [ok_zero, root_none, Bool.true_and]
  simp only [beq_eq_false_iff_ne, ne_eq] at h ⊢
  exact fun e => h e.symm

set_option maxHeartbeats 8000000 in
theorem knows6_any {w : World} (hT : Tbl w) : Calls Tryd.prog 31 #[] w fun e w' => e = .returned (.bool true) ∧ Below w.heap.size w w' := by
  have HT := Lib.hid hT
  have hpos := hT.pos
  have z32 := zero32_len
  have k32 := K1_len
  have v32 := V2_len
  have hlz := hc_len zero32
  have hlk := hc_len K1
  have hlv := hc_len V2
  have P1 := Lib.hid (PrB.new w K1 V2)
  have B1 := Lib.hid ((Below.refl w.heap.size w).alloc (Nat.le_refl _) (.cells (prRow K1 V2).toArray 93))
  clear hT
  go_enter Tryd.func31, Tryd.ntmps31
  go_wp2_with fail
  refine (New_one P1.out).mono ?_
  rintro e w2 ⟨p, m, nb, rfl, hp, hm, hn, hpn, hmn, hb2, hM2, hN2⟩
  have h1 := B1.out.size
  have B2 := Lib.hid (B1.out.trans (hb2.mono B1.out.size))
  have M2 := Lib.hid hM2
  have N2 := Lib.hid hN2
  clear hb2 hM2 hN2 P1 B1
  go_wp2_with fail
  refine (show Calls Tryd.prog 23 #[.agg (hc zero32).toArray, .agg (hc K1).toArray, .agg (hc zero32).toArray, .agg (hc V2).toArray, .agg (pfRow zero32 (.slice none 0 0)).toArray] w2 _ from pUpdate_any (Ss := []) (k := 0) (q := none) (HT.out.on B2.out hpos) zero32_len K1_len zero32_len V2_len zero32_len K1_bytes zero32_bytes V2_bytes zero32_bytes (.inl rfl) HsOk.nil (by decide)).mono ?_
  rintro e w3 ⟨rfl, hb3⟩
  rw [kn_u, kn_e]
  obtain ⟨R, hR⟩ : ∃ R, upH K1 256 (lfH K1 V2) 256 = R := ⟨_, rfl⟩
  have HR := Lib.hid hR
  have lR : R.length = 32 := hR ▸ rtK_len
  have dR : (R == zero32) = false := hR ▸ rtK_some
  have cR1 := kn_c1 hR
  have cR2 := kn_c2 dR
  have C1 := Lib.hid cR1
  have C2 := Lib.hid cR2
  have DR := Lib.hid dR
  rw [hR]
  clear hR cR1 cR2 dR
  have hlr := hc_len R
  have M3 := M2.out.on hb3
  have N3 := N2.out.on hb3
  have B3 := B2.out.trans (hb3.mono B2.out.size)
  have hnl := N3.lt
  have H3 := HashAt.new w3 zero32
  have th3 := H3.there zero32_len
  have B4' : Below w3.heap.size w3 ((w3.alloc (.cells (hc zero32).toArray 23)).setCells w3.heap.size 0 (hc R)) := below_setCells' _ (Nat.le_refl _) _ _ ((Below.refl _ _).alloc (Nat.le_refl _) _)
  have H4 := Lib.hid (H3.put zero32_len lR)
  have M4 := Lib.hid (M3.on B4')
  have N4 := Lib.hid (N3.on B4')
  have B4 := Lib.hid (B3.trans (B4'.mono B3.size))
  clear hb3 M3 N3 B3 H3 B4' M2 N2 B2
  go_wp2_with fail
  clear th3
  obtain ⟨q3, hq⟩ : ∃ q, q = w3.heap.size := ⟨_, rfl⟩
  rw [← hq] at H4 M4 N4 B4 hnl ⊢
  generalize (w3.alloc (.cells (hc zero32).toArray 23)).setCells q3 0 (hc R) = w4 at *
  clear hq
  have dRR : (R == R) = true := beq_self_eq_true _
  have dR := DR.out
  refine wp_region_held_drew (S := fun W => Below w.heap.size w W ∧ HashAt W q3 R) (by kernel_rfl) (⟨B4.out.drew, H4.out.on ((Below.refl _ _).drew)⟩) (fun h0 => ?_)
  replace M4 := Lib.hid (M4.out.on ((Below.refl _ _).drew))
  replace N4 := Lib.hid (N4.out.on ((Below.refl _ _).drew))
  clear B4 H4
  generalize w4.drew = w4 at *
  refine wpAnyH_take (i := 0) (v := ?_) (by rw [List.getElem?_toArray]; rfl) (by kernel_rfl) (by kernel_rfl) (by kernel_rfl) (by exact fun _ _ _ h => h) (Or.inl ⟨by rfl, ?_⟩) h0 ?_
  rotate_left
  · intro W hW
    go_simp
    all_goals with_reducible rfl
  try simp only [Act.put, List.setIfInBounds_toArray, List.set_cons_zero, List.set_cons_succ]
  refine wpAnyH_take (i := 2) (v := ?_) (by rw [List.getElem?_toArray]; rfl) (by kernel_rfl) (by kernel_rfl) (by kernel_rfl) (by exact fun _ _ _ h => h) (Or.inl ⟨by rfl, ?_⟩) h0 ?_
  rotate_left
  · intro W hW
    go_simp
    all_goals with_reducible rfl
  try simp only [Act.put, List.setIfInBounds_toArray, List.set_cons_zero, List.set_cons_succ]
  refine wpAnyH_ready (rs := [1]) (by kernel_rfl) (by simp) ?_
  refine AllReadyH.cons (by rw [List.getElem?_toArray]; rfl) (fun K hK => ?_) AllReadyH.nil
  rw [if_pos (by rfl)]
  go_wp2_with fail
  refine (num6_any 0 _).mono ?_
  rintro e wx ⟨rfl, hwx⟩
  obtain rfl := hwx.symm
  clear hwx
  go_wp2_with fail
  refine hK.out _ _ (h0) (fun hn1 => ?_)
  clear hK K
  try simp only [Act.put, List.setIfInBounds_toArray, List.set_cons_zero, List.set_cons_succ]
  refine wpAnyH_ready (rs := [3]) (by kernel_rfl) (by simp) ?_
  refine AllReadyH.cons (by rw [List.getElem?_toArray]; rfl) (fun K hK => ?_) AllReadyH.nil
  rw [if_pos (by rfl)]
  go_wp2_with fail
  refine (num6_any 0 _).mono ?_
  rintro e wx ⟨rfl, hwx⟩
  obtain rfl := hwx.symm
  clear hwx
  go_wp2_with fail
  refine hK.out _ _ (hn1) (fun hn3 => ?_)
  clear hK K
  try simp only [Act.put, List.setIfInBounds_toArray, List.set_cons_zero, List.set_cons_succ]
  refine wpAnyH_take (i := 4) (v := ?_) (by rw [List.getElem?_toArray]; rfl) (by kernel_rfl) (by kernel_rfl) (by kernel_rfl) (by exact fun _ _ _ h => h) (Or.inl ⟨by rfl, ?_⟩) hn3 ?_
  rotate_left
  · intro W hW
    go_simp
    all_goals with_reducible rfl
  try simp only [Act.put, List.setIfInBounds_toArray, List.set_cons_zero, List.set_cons_succ]
  refine wpAnyH_take (i := 5) (v := ?_) (by rw [List.getElem?_toArray]; rfl) (by kernel_rfl) (by kernel_rfl) (by kernel_rfl) (by exact fun _ _ _ h => h) (Or.inl ⟨by rfl, ?_⟩) hn3 ?_
  rotate_left
  · intro W hW
    go_simp
    all_goals with_reducible rfl
  try simp only [Act.put, List.setIfInBounds_toArray, List.set_cons_zero, List.set_cons_succ]
  refine wpAnyH_take (i := 6) (v := ?_) (by rw [List.getElem?_toArray]; rfl) (by kernel_rfl) (by kernel_rfl) (by kernel_rfl) (by exact fun _ _ _ h => h) (Or.inl ⟨by rfl, ?_⟩) hn3 ?_
  rotate_left
  · intro W hW
    go_simp
    all_goals with_reducible rfl
  try simp only [Act.put, List.setIfInBounds_toArray, List.set_cons_zero, List.set_cons_succ]
  refine wpAnyH_take (i := 7) (v := ?_) (by rw [List.getElem?_toArray]; rfl) (by kernel_rfl) (by kernel_rfl) (by kernel_rfl) (by exact fun _ _ _ h => h) (Or.inl ⟨by rfl, ?_⟩) hn3 ?_
  rotate_left
  · intro W hW
    have ca := hW.2.row lR
    go_simp
    all_goals with_reducible rfl
  try simp only [Act.put, List.setIfInBounds_toArray, List.set_cons_zero, List.set_cons_succ]
  refine wpAnyH_take (i := 8) (v := ?_) (by rw [List.getElem?_toArray]; rfl) (by kernel_rfl) (by kernel_rfl) (by kernel_rfl) (by exact fun _ _ _ h => h) (Or.inl ⟨by rfl, ?_⟩) hn3 ?_
  rotate_left
  · intro W hW
    go_simp
    all_goals with_reducible rfl
  try simp only [Act.put, List.setIfInBounds_toArray, List.set_cons_zero, List.set_cons_succ]
  refine wpAnyH_ready (rs := [9]) (by kernel_rfl) (by simp) ?_
  refine AllReadyH.cons (by rw [List.getElem?_toArray]; rfl) (fun K hK => ?_) AllReadyH.nil
  rw [if_pos (by rfl)]
  go_wp2_with fail
  refine (Root_leaf (n := ⟨K1, 256, none, none, zero32, false, zero32, 0, false⟩) (V := V2) (HT.out.on hn3.1 hpos) ⟨K1_len, zero32_len, zero32_len⟩ rfl K1_bytes V2_len V2_bytes rfl rfl rfl N4.out M4.out hpn hmn (by simp; omega)).mono ?_
  rintro e w9 ⟨rfl, hc9, -⟩
  rw [HR.out]
  have H9 := hn3.2.chg hc9 (by simp; omega)
  have B9 := hn3.1.trans (hc9.toBelow hn3.1.size (by intro x hx; simp at hx; omega))
  go_wp2_with fail
  refine hK.out _ _ (⟨B9, H9⟩) (fun h9x => ?_)
  clear hK K
  try simp only [Act.put, List.setIfInBounds_toArray, List.set_cons_zero, List.set_cons_succ]
  refine wpAnyH_take (i := 10) (v := ?_) (by rw [List.getElem?_toArray]; rfl) (by kernel_rfl) (by kernel_rfl) (by kernel_rfl) (by exact fun _ _ _ h => h) (Or.inl ⟨by rfl, ?_⟩) h9x ?_
  rotate_left
  · intro W hW
    go_simp
    all_goals with_reducible rfl
  try simp only [Act.put, List.setIfInBounds_toArray, List.set_cons_zero, List.set_cons_succ]
  refine wpAnyH_take (i := 11) (v := ?_) (by rw [List.getElem?_toArray]; rfl) (by kernel_rfl) (by kernel_rfl) (by kernel_rfl) (by exact fun _ _ _ h => h) (Or.inl ⟨by rfl, ?_⟩) h9x ?_
  rotate_left
  · intro W hW
    go_simp
    all_goals with_reducible rfl
  try simp only [Act.put, List.setIfInBounds_toArray, List.set_cons_zero, List.set_cons_succ]
  refine wpAnyH_take (i := 12) (v := ?_) (by rw [List.getElem?_toArray]; rfl) (by kernel_rfl) (by kernel_rfl) (by kernel_rfl) (by exact fun _ _ _ h => h) (Or.inl ⟨by rfl, ?_⟩) h9x ?_
  rotate_left
  · intro W hW
    go_simp
    all_goals with_reducible rfl
  try simp only [Act.put, List.setIfInBounds_toArray, List.set_cons_zero, List.set_cons_succ]
  refine wpAnyH_take (i := 13) (v := ?_) (by rw [List.getElem?_toArray]; rfl) (by kernel_rfl) (by kernel_rfl) (by kernel_rfl) (by exact fun _ _ _ h => h) (Or.inl ⟨by rfl, ?_⟩) h9x ?_
  rotate_left
  · intro W hW
    have ca := hW.2.row lR
    go_simp
    all_goals with_reducible rfl
  try simp only [Act.put, List.setIfInBounds_toArray, List.set_cons_zero, List.set_cons_succ]
  refine wpAnyH_take (i := 14) (v := ?_) (by rw [List.getElem?_toArray]; rfl) (by kernel_rfl) (by kernel_rfl) (by kernel_rfl) (by exact fun _ _ _ h => h) (Or.inl ⟨by rfl, ?_⟩) h9x ?_
  rotate_left
  · intro W hW
    go_simp
    all_goals with_reducible rfl
  try simp only [Act.put, List.setIfInBounds_toArray, List.set_cons_zero, List.set_cons_succ]
  refine wpAnyH_take (i := 15) (v := ?_) (by rw [List.getElem?_toArray]; rfl) (by kernel_rfl) (by kernel_rfl) (by kernel_rfl) (by exact fun _ _ _ h => h) (Or.inl ⟨by rfl, ?_⟩) h9x ?_
  rotate_left
  · intro W hW
    go_simp
    all_goals with_reducible rfl
  try simp only [Act.put, List.setIfInBounds_toArray, List.set_cons_zero, List.set_cons_succ]
  refine wpAnyH_take (i := 16) (v := ?_) (by rw [List.getElem?_toArray]; rfl) (by kernel_rfl) (by kernel_rfl) (by kernel_rfl) (by exact fun _ _ _ h => h) (Or.inl ⟨by rfl, ?_⟩) h9x ?_
  rotate_left
  · intro W hW
    go_simp
    all_goals with_reducible rfl
  try simp only [Act.put, List.setIfInBounds_toArray, List.set_cons_zero, List.set_cons_succ]
  refine wpAnyH_take (i := 17) (v := ?_) (by rw [List.getElem?_toArray]; rfl) (by kernel_rfl) (by kernel_rfl) (by kernel_rfl) (by exact fun _ _ _ h => h) (Or.inl ⟨by rfl, ?_⟩) h9x ?_
  rotate_left
  · intro W hW
    go_simp
    all_goals with_reducible rfl
  try simp only [Act.put, List.setIfInBounds_toArray, List.set_cons_zero, List.set_cons_succ]
  refine wpAnyH_take (i := 18) (v := ?_) (by rw [List.getElem?_toArray]; rfl) (by kernel_rfl) (by kernel_rfl) (by kernel_rfl) (by exact fun _ _ _ h => h) (Or.inl ⟨by rfl, ?_⟩) h9x ?_
  rotate_left
  · intro W hW
    have ca := hW.2.row lR
    go_simp
    all_goals with_reducible rfl
  try simp only [Act.put, List.setIfInBounds_toArray, List.set_cons_zero, List.set_cons_succ]
  refine wpAnyH_take (i := 19) (v := ?_) (by rw [List.getElem?_toArray]; rfl) (by kernel_rfl) (by kernel_rfl) (by kernel_rfl) (by exact fun _ _ _ h => h) (Or.inl ⟨by rfl, ?_⟩) h9x ?_
  rotate_left
  · intro W hW
    go_simp
    all_goals with_reducible rfl
  try simp only [Act.put, List.setIfInBounds_toArray, List.set_cons_zero, List.set_cons_succ]
  refine wpAnyH_take (i := 20) (v := ?_) (by rw [List.getElem?_toArray]; rfl) (by kernel_rfl) (by kernel_rfl) (by kernel_rfl) (by exact fun _ _ _ h => h) (Or.inl ⟨by rfl, ?_⟩) h9x ?_
  rotate_left
  · intro W hW
    go_simp
    all_goals with_reducible rfl
  try simp only [Act.put, List.setIfInBounds_toArray, List.set_cons_zero, List.set_cons_succ]
  refine wpAnyH_take (i := 21) (v := ?_) (by rw [List.getElem?_toArray]; rfl) (by kernel_rfl) (by kernel_rfl) (by kernel_rfl) (by exact fun _ _ _ h => h) (Or.inl ⟨by rfl, ?_⟩) h9x ?_
  rotate_left
  · intro W hW
    go_simp
    all_goals with_reducible rfl
  try simp only [Act.put, List.setIfInBounds_toArray, List.set_cons_zero, List.set_cons_succ]
  refine wpAnyH_ready (rs := [22]) (by kernel_rfl) (by simp) ?_
  refine AllReadyH.cons (by rw [List.getElem?_toArray]; rfl) (fun K hK => ?_) AllReadyH.nil
  rw [if_pos (by rfl)]
  go_wp2_with fail
  refine (show Calls Tryd.prog 28 #[.agg (hc R).toArray, .agg (hc K1).toArray, .agg (hc V2).toArray, .agg (pfRow zero32 (.slice none 0 0)).toArray] w9 _ from pCheck_any (Ss := []) (k := 0) (q := none) (HT.out.on h9x.1 hpos) lR K1_len V2_len zero32_len K1_bytes V2_bytes zero32_bytes (.inl rfl) HsOk.nil (by decide)).mono ?_
  rintro e w22 ⟨rfl, hb22⟩
  rw [C1.out]
  go_wp2_with fail
  refine hK.out _ _ (⟨h9x.1.trans (hb22.mono h9x.1.size), h9x.2.on hb22⟩) (fun h22x => ?_)
  clear hK K
  try simp only [Act.put, List.setIfInBounds_toArray, List.set_cons_zero, List.set_cons_succ]
  refine wpAnyH_take (i := 23) (v := ?_) (by rw [List.getElem?_toArray]; rfl) (by kernel_rfl) (by kernel_rfl) (by kernel_rfl) (by exact fun _ _ _ h => h) (Or.inl ⟨by rfl, ?_⟩) h22x ?_
  rotate_left
  · intro W hW
    go_simp
    all_goals with_reducible rfl
  try simp only [Act.put, List.setIfInBounds_toArray, List.set_cons_zero, List.set_cons_succ]
  refine wpAnyH_take (i := 24) (v := ?_) (by rw [List.getElem?_toArray]; rfl) (by kernel_rfl) (by kernel_rfl) (by kernel_rfl) (by exact fun _ _ _ h => h) (Or.inl ⟨by rfl, ?_⟩) h22x ?_
  rotate_left
  · intro W hW
    go_simp
    all_goals with_reducible rfl
  try simp only [Act.put, List.setIfInBounds_toArray, List.set_cons_zero, List.set_cons_succ]
  refine wpAnyH_take (i := 25) (v := ?_) (by rw [List.getElem?_toArray]; rfl) (by kernel_rfl) (by kernel_rfl) (by kernel_rfl) (by exact fun _ _ _ h => h) (Or.inl ⟨by rfl, ?_⟩) h22x ?_
  rotate_left
  · intro W hW
    have ca := hW.2.row lR
    go_simp
    all_goals with_reducible rfl
  try simp only [Act.put, List.setIfInBounds_toArray, List.set_cons_zero, List.set_cons_succ]
  refine wpAnyH_take (i := 26) (v := ?_) (by rw [List.getElem?_toArray]; rfl) (by kernel_rfl) (by kernel_rfl) (by kernel_rfl) (by exact fun _ _ _ h => h) (Or.inl ⟨by rfl, ?_⟩) h22x ?_
  rotate_left
  · intro W hW
    go_simp
    all_goals with_reducible rfl
  try simp only [Act.put, List.setIfInBounds_toArray, List.set_cons_zero, List.set_cons_succ]
  refine wpAnyH_take (i := 27) (v := ?_) (by rw [List.getElem?_toArray]; rfl) (by kernel_rfl) (by kernel_rfl) (by kernel_rfl) (by exact fun _ _ _ h => h) (Or.inl ⟨by rfl, ?_⟩) h22x ?_
  rotate_left
  · intro W hW
    go_simp
    all_goals with_reducible rfl
  try simp only [Act.put, List.setIfInBounds_toArray, List.set_cons_zero, List.set_cons_succ]
  refine wpAnyH_take (i := 28) (v := ?_) (by rw [List.getElem?_toArray]; rfl) (by kernel_rfl) (by kernel_rfl) (by kernel_rfl) (by exact fun _ _ _ h => h) (Or.inl ⟨by rfl, ?_⟩) h22x ?_
  rotate_left
  · intro W hW
    go_simp
    all_goals with_reducible rfl
  try simp only [Act.put, List.setIfInBounds_toArray, List.set_cons_zero, List.set_cons_succ]
  refine wpAnyH_ready (rs := [29]) (by kernel_rfl) (by simp) ?_
  refine AllReadyH.cons (by rw [List.getElem?_toArray]; rfl) (fun K hK => ?_) AllReadyH.nil
  rw [if_pos (by rfl)]
  go_wp2_with fail
  refine (show Calls Tryd.prog 28 #[.agg (hc R).toArray, .agg (hc K1).toArray, .agg (hc zero32).toArray, .agg (pfRow zero32 (.slice none 0 0)).toArray] w22 _ from pCheck_any (Ss := []) (k := 0) (q := none) (HT.out.on h22x.1 hpos) lR K1_len zero32_len zero32_len K1_bytes zero32_bytes zero32_bytes (.inl rfl) HsOk.nil (by decide)).mono ?_
  rintro e w29 ⟨rfl, hb29⟩
  rw [C2.out]
  go_wp2_with fail
  refine hK.out _ _ (⟨h22x.1.trans (hb29.mono h22x.1.size), h22x.2.on hb29⟩) (fun h29x => ?_)
  clear hK K
  try simp only [Act.put, List.setIfInBounds_toArray, List.set_cons_zero, List.set_cons_succ]
  refine wpAnyH_take (i := 30) (v := ?_) (by rw [List.getElem?_toArray]; rfl) (by kernel_rfl) (by kernel_rfl) (by kernel_rfl) (by exact fun _ _ _ h => h) (Or.inl ⟨by rfl, ?_⟩) h29x ?_
  rotate_left
  · intro W hW
    go_simp
    all_goals with_reducible rfl
  try simp only [Act.put, List.setIfInBounds_toArray, List.set_cons_zero, List.set_cons_succ]
  refine wpAnyH_take (i := 31) (v := ?_) (by rw [List.getElem?_toArray]; rfl) (by kernel_rfl) (by kernel_rfl) (by kernel_rfl) (by exact fun _ _ _ h => h) (Or.inl ⟨by rfl, ?_⟩) h29x ?_
  rotate_left
  · intro W hW
    go_simp
    all_goals with_reducible rfl
  try simp only [Act.put, List.setIfInBounds_toArray, List.set_cons_zero, List.set_cons_succ]
  refine wpAnyH_take (i := 32) (v := ?_) (by rw [List.getElem?_toArray]; rfl) (by kernel_rfl) (by kernel_rfl) (by kernel_rfl) (by exact fun _ _ _ h => h) (Or.inl ⟨by rfl, ?_⟩) h29x ?_
  rotate_left
  · intro W hW
    go_simp
    all_goals with_reducible rfl
  try simp only [Act.put, List.setIfInBounds_toArray, List.set_cons_zero]
  refine wpAnyH_done (by kernel_rfl) ?_ _
  have BE := Lib.hid h29x.1
  go_wp2_with fail
  go_ret
  exact ⟨rfl, BE.out⟩
end Go.Proofs.YtjgfjmkfcippcaaDoor
namespace Go.Proofs.YtjgfjmkfcippcaaDoor
set_option maxRecDepth 100000
open Go.RowKit

structure Sp where
  key : List Int
  old : List Int
  mask : List Int
  sides : List (List Int)
structure Sp.ok (s : Sp) : Prop where
  key : s.key.length = 32
  old : s.old.length = 32
  mask : s.mask.length = 32
  bk : Bytes s.key
  bo : Bytes s.old
  bm : Bytes s.mask
  hs : HsOk s.sides
  n32 : s.sides.length * 32 ≤ 140737488355328
def sp0 : Sp := ⟨[], [], [], []⟩
def spRow (s : Sp) (v : Value) : List Value := hc s.key ++ (hc s.old ++ pfRow s.mask v)
theorem spRow_len {s : Sp} (h : s.ok) (v : Value) : (spRow s v).length = 97 := by simp [spRow, pfRow, hc_len, h.key, h.old, h.mask]
theorem rowOf_sub (w : World) (b o : Nat) {j n m : Nat} (h : j + n ≤ m) : rowOf w b (o + j) n = ((rowOf w b o m).drop j).take n := by
  unfold rowOf
  cases w.heap[b]? with
  | none => simp
  | some x =>
    cases x with
    | cells cs t fr =>
      simp only [Array.toList_extract, List.extract_eq_take_drop]
      rw [List.drop_take, List.drop_drop, List.take_take]
      congr 1
      omega
    | _ => simp
theorem sp_key {w : World} {b o : Nat} {s : Sp} {v : Value} (ok : s.ok) (h : rowOf w b o 97 = spRow s v) : rowOf w b o 32 = hc s.key := by
  have e := rowOf_sub w b o (j := 0) (n := 32) (m := 97) (by omega)
  rw [Nat.add_zero] at e
  rw [e, h, List.drop_zero]
  exact List.take_left' (by rw [hc_len, ok.key])
theorem sp_old {w : World} {b o : Nat} {s : Sp} {v : Value} (ok : s.ok) (h : rowOf w b o 97 = spRow s v) : rowOf w b (o + 32) 32 = hc s.old := by
  rw [rowOf_sub w b o (j := 32) (n := 32) (m := 97) (by omega), h]
  exact take_midd (hc s.key) (hc s.old) (pfRow s.mask v) (by rw [hc_len, ok.key]) (by rw [hc_len, ok.old])
theorem sp_pf {w : World} {b o : Nat} {s : Sp} {v : Value} (ok : s.ok) (h : rowOf w b o 97 = spRow s v) : rowOf w b (o + 64) 33 = pfRow s.mask v := by
  rw [rowOf_sub w b o (j := 64) (n := 33) (m := 97) (by omega), h]
  have := take_midd (hc s.key ++ hc s.old) (pfRow s.mask v) [] (o := 64) (n := 33) (by simp [hc_len, ok.key, ok.old]) (pfRow_len ok.mask v)
  simpa [spRow] using this
/-- A slice of steps. -/
def RdSp (w : World) (q : Option Addr) (L : List Sp) : Prop := L = [] ∨ ∃ b off, q = some ⟨b, off, none⟩ ∧ ∀ i, i < L.length → ∃ qi ki, rowOf w b (off + i * 97) 97 = spRow (L.getD i sp0) (.slice qi (L.getD i sp0).sides.length ki) ∧ RdHs w qi (L.getD i sp0).sides
def SpOk (L : List Sp) : Prop := ∀ s ∈ L, s.ok
theorem SpOk.get {L : List Sp} (h : SpOk L) {i : Nat} (hi : i < L.length) : (L.getD i sp0).ok := by
  have e : L.getD i sp0 = L[i] := by simp [List.getD, hi]
  rw [e]
  exact h _ (List.getElem_mem hi)
theorem RdSp.on {w w' : World} {q : Option Addr} {L : List Sp} (h : RdSp w q L) (ok : SpOk L) (hb : Below w.heap.size w w') : RdSp w' q L := by
  rcases h with h | ⟨b, off, e, hx⟩
  · exact .inl h
  · refine .inr ⟨b, off, e, fun i hi => ?_⟩
    obtain ⟨qi, ki, h1, h2⟩ := hx i hi
    exact ⟨qi, ki, by rw [rowOf_on (by rw [h1, spRow_len (ok.get hi)]; omega) hb]; exact h1, h2.on (fun j hj => ((ok.get hi).hs.get j hj).1) hb⟩
/-- Rows behind each other. -/
def rowsN (f : Nat → List Value) : Nat → List Value
  | 0 => []
  | k + 1 => rowsN f k ++ f k
theorem rowsN_len {f : Nat → List Value} : ∀ k, (∀ j, j < k → (f j).length = 97) → (rowsN f k).length = k * 97
  | 0, _ => rfl
  | k + 1, h => by
    rw [rowsN, List.length_append, rowsN_len k (fun j hj => h j (by omega)), h k (by omega)]
    omega
theorem rowsN_cong {f g : Nat → List Value} : ∀ k, (∀ j, j < k → f j = g j) → rowsN f k = rowsN g k
  | 0, _ => rfl
  | k + 1, h => by rw [rowsN, rowsN, rowsN_cong k (fun j hj => h j (by omega)), h k (by omega)]
theorem rowsN_mid {f : Nat → List Value} : ∀ k (tail : List Value), (∀ j, j < k → (f j).length = 97) → ∀ i, i < k → ((rowsN f k ++ tail).drop (i * 97)).take 97 = f i
  | 0, _, _, i, hi => by omega
  | k + 1, tail, h, i, hi => by
    have hl := rowsN_len k (fun j hj => h j (by omega))
    rw [rowsN, List.append_assoc]
    by_cases e : i = k
    · subst e
      rw [List.drop_left' hl]
      exact List.take_left' (h i (by omega))
    · exact rowsN_mid k (f k ++ tail) (fun j hj => h j (by omega)) i (by omega)
def spF (L : List Sp) (Q : Nat → Option Addr × Nat) (j : Nat) : List Value := spRow (L.getD j sp0) (.slice (Q j).1 (L.getD j sp0).sides.length (Q j).2)
/-- k steps were copied. -/
structure OwP (w wr : World) (v : Value) (L : List Sp) (k : Nat) (Q : Nat → Option Addr × Nat) : Prop where
  own : wr.ownsRow 0 101 97 v k (rowsN (spF L Q) k)
  each : ∀ j, j < k → HsS w wr (.slice (Q j).1 (L.getD j sp0).sides.length (Q j).2) (L.getD j sp0).sides
  fresh : ∀ g, v.ownBlock = some g → w.heap.size ≤ g
  below : Below w.heap.size w wr
theorem OwP.start (w : World) (L : List Sp) (Q : Nat → Option Addr × Nat) : OwP w w (.slice none 0 0) L 0 Q := ⟨World.ownsRow_nil w 0 _ 97, fun j hj => by omega, by simp [Value.ownBlock], Below.refl _ _⟩
theorem OwP.on {w wr w1 : World} {v : Value} {L : List Sp} {k : Nat} {Q : Nat → Option Addr × Nat} (h : OwP w wr v L k Q) (hb : Below wr.heap.size wr w1) : OwP w w1 v L k Q :=
  ⟨own_on h.own hb, fun j hj => (h.each j hj).on hb, h.fresh, h.below.trans (hb.mono h.below.size)⟩
theorem OwP.rd {w wr : World} {q : Option Addr} {n c : Nat} {L : List Sp} {Q : Nat → Option Addr × Nat} (ok : SpOk L) (h : OwP w wr (.slice q n c) L L.length Q) : n = L.length ∧ RdSp wr q L := by
  rcases h.own.2 with ⟨e, h0⟩ | ⟨g, cap, cur, e, _, hg, hnc, hcm, hcs', htake⟩
  · simp only [Value.slice.injEq] at e
    obtain ⟨rfl, rfl, rfl⟩ := e
    exact ⟨h0.symm, .inl (List.eq_nil_of_length_eq_zero h0)⟩
  · simp only [Value.slice.injEq] at e
    obtain ⟨rfl, rfl, rfl⟩ := e
    refine ⟨rfl, .inr ⟨g, 0, rfl, fun i hi => ⟨(Q i).1, (Q i).2, ?_, (h.each i hi).rd.2.1⟩⟩⟩
    have hl : ∀ j, j < L.length → (spF L Q j).length = 97 := fun j hj => spRow_len (ok.get hj) _
    have hc2 : cur = (rowsN (spF L Q) L.length ++ cur.toList.drop (L.length * 97)).toArray := by
      apply Array.ext'
      show cur.toList = rowsN (spF L Q) L.length ++ cur.toList.drop (L.length * 97)
      rw [← htake, List.take_append_drop]
    rw [hc2] at hg
    rw [rowOf_block hg, Nat.zero_add]
    have := rowsN_mid L.length (cur.toList.drop (L.length * 97)) hl i hi
    show _ = spF L Q i
    rw [← this]
    simp [List.take_drop]
theorem HsS.base {w w1 wr : World} {v : Value} {Ss : List (List Int)} (h : HsS w1 wr v Ss) (hb : Below w.heap.size w w1) : HsS w wr v Ss :=
  ⟨h.own, h.ok, fun g hg => Nat.le_trans hb.size (h.fresh g hg), hb.trans (h.below.mono hb.size)⟩
theorem HsS.keep {w wr w1 : World} {u v : Value} {n : Nat} {xs : List Value} {Ss : List (List Int)} (h : HsS w wr u Ss) (hv : wr.ownsRow 0 101 97 v n xs) (hg : wr.grownBy w1 v.ownBlock) (hb : Below w.heap.size w w1) : HsS w w1 u Ss :=
  ⟨own_keep h.own (fun g e => hg.block g (own_lt h.own e) (fun e2 => own_two h.own hv (by decide) e e2.symm)), h.ok, h.fresh, hb⟩
theorem HsS.keepN {w wr w1 : World} {u v : Value} {Ss : List (List Int)} (h : HsS w wr u Ss) (hg : wr.grownBy w1 v.ownBlock) (hv : v = .slice none 0 0 ∨ v.ownBlock = none) (hb : Below w.heap.size w w1) : HsS w w1 u Ss := by
  have e : v.ownBlock = none := by rcases hv with rfl | e; simp [Value.ownBlock]; exact e
  rw [e] at hg
  exact ⟨own_keep h.own (fun g e' => hg.block g (own_lt h.own e') (by simp)), h.ok, h.fresh, hb⟩

def stPlaces : List (Nat × Nat) := [(0, 32), (32, 32), (64, 33)]
def st0 : List Value := hc zero32 ++ (hc zero32 ++ pfRow zero32 (.slice none 0 0))
theorem Tryd.built_st (ps : List (Nat × Value)) : Tryd.prog.built 101 ps = Instr.fill (fun i => stPlaces.toArray[i]?) st0.toArray ps := by kernel_rfl
@[go_sem ↓] theorem Tryd.build_st (ps : Array (Nat × Value)) : Instr.build 101 ps = rowBuild 101 ps := rfl
theorem Tryd.run_st (w : World) (s : Sp) (ok : s.ok) (v : Value) (_hv : v.cells = #[v]) :
    (rowBuild 101 #[(0, .agg (hc s.key).toArray), (1, .agg (hc s.old).toArray), (2, .agg (pfRow s.mask v).toArray)]).run Tryd.prog w = .ok (.agg (spRow s v).toArray) w := by
  refine run_build w _ _ _ ?_
  rw [Tryd.built_st]
  show Instr.fill _ _ ((0, Value.agg (hc s.key).toArray) :: (1, Value.agg (hc s.old).toArray) :: (2, Value.agg (pfRow s.mask v).toArray) :: []) = _
  have z1 : st0 = [] ++ (hc zero32 ++ (hc zero32 ++ pfRow zero32 (.slice none 0 0))) := rfl
  rw [z1, fill_at (i := 0) (off := 0) (size := 32) (vs := hc s.key) rfl rfl rfl rfl (by rw [hc_len, ok.key])]
  rw [List.nil_append, fill_at (i := 1) (off := 32) (size := 32) (vs := hc s.old) rfl rfl (by rw [hc_len, ok.key]) rfl (by rw [hc_len, ok.old])]
  rw [show (hc s.key ++ (hc s.old ++ pfRow zero32 (.slice none 0 0)) : List Value) = (hc s.key ++ hc s.old) ++ (pfRow zero32 (.slice none 0 0) ++ []) by simp]
  rw [fill_at (i := 2) (off := 64) (size := 33) (vs := pfRow s.mask v) rfl rfl (by simp [hc_len, ok.key, ok.old]) rfl (pfRow_len ok.mask v)]
  simp [spRow, Instr.fill]
theorem Tryd.zero_st (w : World) : (zeroValue 101).run Tryd.prog w = .ok (.agg st0.toArray) w := by kernel_rfl
@[go_sem ↓] theorem Tryd.slice_st (ps : Array (Nat × Value)) : Instr.buildSlice 58 1 ps = rowNew 58 ps := rfl
theorem Tryd.run_slice_st (w : World) (R : List Value) (hR : R.length = 97) :
    (rowNew 58 #[(0, .agg R.toArray)]).run Tryd.prog w = .ok (.slice (some ⟨w.heap.size, 0, none⟩) 1 1) (w.alloc (.cells R.toArray 101)) :=
  run_bs_one w Tryd.underlying58 (by kernel_rfl) (Tryd.zero_st w) (n := 97) (by decide) (by decide) hR
theorem Tryd.infoSt : (Tryd.prog.info? 101).map (fun i => (i.zero, i.size, i.bytes)) = some (some (.agg st0.toArray), 97, 120) := by kernel_rfl
theorem st0_cells : (Value.agg st0.toArray).cells.size = 97 := by rfl
end Go.Proofs.YtjgfjmkfcippcaaDoor
