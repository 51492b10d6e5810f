/-
  Package oracle: New, Proposal, Pays, pay, disputed.
-/
import Derived.Test.YtppaallnanodhaaGreatDoorOrSmall
namespace Go.Proofs.YtppaallnanodhaaGreatDoor
set_option maxRecDepth 100000
open Go.RowKit

/-! ### A new oracle -/
def or0 : Or := ⟨0, 0, 0, zero32, .slice none 0 0, .slice none 0 0, 0⟩
def orPlaces : List (Nat × Nat) := [(0, 1), (1, 1), (2, 1), (3, 32), (35, 1), (36, 1), (37, 1), (38, 1)]
theorem Tryz.built_or (ps : List (Nat × Value)) : Tryz.prog.built 86 ps = Instr.fill (fun i => orPlaces.toArray[i]?) or0.row.toArray ps := by kernel_rfl
@[go_sem ↓] theorem Tryz.build_or (ps : Array (Nat × Value)) : Instr.build 86 ps = rowBuild 86 ps := rfl
@[go_sem] theorem Tryz.run_or (w : World) (a b : Int) (F : List Int) (hF : F.length = 32) :
    (rowBuild 86 #[(0, .int .i64 a), (1, .int .i64 b), (3, .agg (hc F).toArray)]).run Tryz.prog w = .ok (.agg (Or.row ⟨a, b, 0, F, .slice none 0 0, .slice none 0 0, 0⟩).toArray) w := by
  refine run_build w _ _ _ ?_
  rw [Tryz.built_or]
  show Instr.fill _ _ ((0, Value.int .i64 a) :: (1, Value.int .i64 b) :: (3, Value.agg (hc F).toArray) :: []) = _
  have z1 : or0.row = [] ++ ([.int .i64 0] ++ ([.int .i64 0, .int .i64 0] ++ (hc zero32 ++ [.slice none 0 0, .slice none 0 0, .slice none 0 0, .int .i64 0]))) := rfl
  rw [z1, fill_step (i := 0) (off := 0) (size := 1) (vs := [.int .i64 a]) rfl rfl rfl rfl rfl]
  rw [show ([] ++ ([Value.int .i64 a] ++ ([Value.int .i64 0, .int .i64 0] ++ (hc zero32 ++ [.slice none 0 0, .slice none 0 0, .slice none 0 0, .int .i64 0]))) : List Value) = [.int .i64 a] ++ ([.int .i64 0] ++ ([.int .i64 0] ++ (hc zero32 ++ [.slice none 0 0, .slice none 0 0, .slice none 0 0, .int .i64 0]))) from rfl]
  rw [fill_step (i := 1) (off := 1) (size := 1) (vs := [.int .i64 b]) rfl rfl rfl rfl rfl]
  rw [show ([.int .i64 a] ++ ([Value.int .i64 b] ++ ([.int .i64 0] ++ (hc zero32 ++ [.slice none 0 0, .slice none 0 0, .slice none 0 0, .int .i64 0]))) : List Value) = [.int .i64 a, .int .i64 b, .int .i64 0] ++ (hc zero32 ++ [.slice none 0 0, .slice none 0 0, .slice none 0 0, .int .i64 0]) from rfl]
  rw [fill_step (i := 3) (off := 3) (size := 32) (vs := hc F) rfl rfl rfl rfl (by rw [hc_len, hF])]
  rfl

theorem New_any (w : World) (F : List Int) (hF : F.length = 32) (a b : Int) (ha : 1 ≤ a ∧ a ≤ 1000) (hb : 1 ≤ b ∧ b ≤ 1000) :
    Calls Tryz.prog 22 #[.agg (hc F).toArray, .int .i64 a, .int .i64 b] w fun e w' => ∃ p, e = .returned (.tuple #[.pointer (some ⟨p, 0, none⟩), .int .i64 0]) ∧
      OSt w w' p ⟨a, b, 0, F, .slice none 0 0, .slice none 0 0, 0⟩ [] [] := by
  have d1 : decide (a < 1) = false := by simp; omega
  have d2 : decide (a > 1048576) = false := by simp; omega
  have d3 : decide (b < 1) = false := by simp; omega
  have d4 : decide (b > 1048576) = false := by simp; omega
  have cr : rowOf (w.alloc (.cells (hc F).toArray 24)) w.heap.size 0 32 = hc F := HashAt.row (HashAt.new w F) hF
  have hl : (hc F).length = 32 := by rw [hc_len, hF]
  go_enter Tryz.func22, Tryz.ntmps22
  go_wp2_with fail
  refine bodyPost_ret (v := .tuple #[.pointer (some ⟨w.heap.size + 1, 0, none⟩), .int .i64 0]) (by simp [results, Tryz.results22, go_sem]) rfl ?_
  refine ⟨_, rfl, ?_⟩
  have B := ((Below.refl w.heap.size w).alloc (Nat.le_refl _) (.cells (hc F).toArray 24)).alloc (by simp) (.cells (Or.row ⟨a, b, 0, F, .slice none 0 0, .slice none 0 0, 0⟩).toArray 86)
  refine ⟨by have := heap_alloc_last (w.alloc (.cells (hc F).toArray 24)) (.cells (Or.row ⟨a, b, 0, F, .slice none 0 0, .slice none 0 0, 0⟩).toArray 86); simpa [OrB] using this, hF, by simp, World.ownsRow_nil _ 0 _ 69, World.ownsRow_nil _ 0 _ 2, by simp, by simp [Value.ownBlock], by simp [Value.ownBlock], B⟩

/-! ### A proposal -/
theorem pr_there {w : World} {b : Nat} {x : Pr} {t : TypeId} (hx : x.ok) (h : w.heap[b]? = some (.cells x.row.toArray t (0, 0))) : w.there b 0 69 := fun j hj => by
  refine ⟨?_, Joins.unfrozen_of_block h _⟩
  rw [cell_of_row _ _ _ _ _ _ h]
  simp [hx.len, hj]
theorem pr_row {w : World} {b : Nat} {x : Pr} {t : TypeId} (hx : x.ok) (h : w.heap[b]? = some (.cells x.row.toArray t (0, 0))) : rowOf w b 0 69 = x.row := by
  rw [rowOf_block h]
  simp [List.take_of_length_le (Nat.le_of_eq hx.len)]
theorem pr_set {w : World} {b : Nat} {x y : Pr} {t : TypeId} (hx : x.ok) (hy : y.ok) (h : w.heap[b]? = some (.cells x.row.toArray t (0, 0))) : (w.setCells b 0 y.row).heap[b]? = some (.cells y.row.toArray t (0, 0)) := by
  have := setCells_block (b := b) (t := t) (fr := (0, 0)) y.row (o := 0) (w := w) (pre := []) (mid := x.row) (post := []) (by simp only [List.nil_append, List.append_nil]; exact h) rfl (by rw [hx.len, hy.len])
  simpa only [List.nil_append, List.append_nil] using this

theorem Proposal_any {a w : World} {p : Nat} {o : Or} {L : List Pr} {Y : List (Int × Int)} (h : OSt a w p o L Y) (hw : 0 < o.wait) {i : Nat} (hi : i < L.length) :
    Calls Tryz.prog 10 #[.pointer (some ⟨p, 0, none⟩), .int .i64 i] w fun e w' => e = .returned (.tuple #[.agg (L[i]).row.toArray, .bool true]) ∧ Below w.heap.size w w' := by
  have B : Below w.heap.size w (w.alloc (.cells pr0.row.toArray 54)) := (Below.refl _ _).alloc (Nat.le_refl _) _
  have h1 := h.alloc (.cells pr0.row.toArray 54)
  have R : (w.alloc (.cells pr0.row.toArray 54)).heap[w.heap.size]? = some (.cells pr0.row.toArray 54 (0, 0)) := heap_alloc_last w _
  have hx := h.all _ (List.getElem_mem hi)
  have ct := pr_there pr0_ok R
  have cr := pr_row hx (pr_set pr0_ok hx R)
  obtain ⟨g, c, e, _, _, cg, -⟩ := h1.at hi
  obtain ⟨-, -, -, c35, -⟩ := h1.blk.facts h.root
  rw [e] at c35
  have hr := h.root
  have hxl := hx.len
  have d1 : decide ((i : Int) < 0) = false := by simp
  have d2 : decide ((i : Int) ≥ (L.length : Int)) = false := by simp; omega
  have hi' : (i : Int) < L.length := by omega
  generalize hxx : L[i] = x at cr cg hx hxl ⊢
  have h1b := h1.blk
  clear h h1
  go_enter Tryz.func10, Tryz.ntmps10
  go_wp2_with fail
  generalize hw1 : w.alloc (.cells pr0.row.toArray 54) = wa at R h1b B c35 cg cr ct ⊢
  refine (made_any h1b hr hw).mono ?_
  rintro e w1 ⟨rfl, rfl⟩
  go_wp2_with fail
  refine bodyPost_ret (v := .tuple #[.agg x.row.toArray, .bool true]) (by simp [results, Tryz.results10, go_sem, cr, hxl]) rfl ⟨rfl, below_setCells' _ (Nat.le_refl _) _ _ B⟩

/-! ### What waits to be paid -/
theorem Pays_any {a w : World} {p : Nat} {o : Or} {L : List Pr} {Y : List (Int × Int)} (h : OSt a w p o L Y) (hw : 0 < o.wait) :
    Calls Tryz.prog 19 #[.pointer (some ⟨p, 0, none⟩)] w fun e w' => e = .returned o.vY ∧ OSt a w' p { o with vY := .slice none 0 0 } L [] ∧
      w'.ownsRow 0 93 2 o.vY Y.length (Y.flatMap payRow) ∧ Chg w w' [p] := by
  obtain ⟨-, -, -, -, -, c37, -⟩ := h.blk.facts h.root
  have f37 := h.blk.free 37
  have hC : Chg w (w.setCell ⟨p, 37, none⟩ (.slice none 0 0)) [p] := (Chg.refl w _).setCell (.inl (by simp)) _
  have H : Hid (OSt a (w.setCell ⟨p, 37, none⟩ (.slice none 0 0)) p { o with vY := .slice none 0 0 } L [] ∧ (w.setCell ⟨p, 37, none⟩ (.slice none 0 0)).ownsRow 0 93 2 o.vY Y.length (Y.flatMap payRow) ∧ Chg w (w.setCell ⟨p, 37, none⟩ (.slice none 0 0)) [p]) := by
    refine ⟨⟨h.blk.setY h.root _, h.root, h.all, own_chg h.pr hC (fun k hk hm => h.neP (by rw [hk, List.mem_singleton.1 hm])), World.ownsRow_nil _ 0 _ 2, h.hp, h.hP, by simp [Value.ownBlock], h.below.setCell h.hp _⟩, own_chg h.pay hC (fun k hk hm => h.neY (by rw [hk, List.mem_singleton.1 hm])), hC⟩
  have hb := h.blk
  have hr := h.root
  clear h hC
  generalize hv : o.vY = vY at c37 H ⊢
  go_enter Tryz.func19, Tryz.ntmps19
  go_wp2_with fail
  refine (made_any hb hr hw).mono ?_
  rintro e w1 ⟨rfl, rfl⟩
  go_wp2_with fail
  go_ret
  exact ⟨rfl, H.out⟩

@[go_sem ↓] theorem Tryz.slice_pay (ps : Array (Nat × Value)) : Instr.buildSlice 80 1 ps = rowNew 80 ps := rfl
@[go_sem] theorem Tryz.run_slice_pay (w : World) (x y : Int) :
    (rowNew 80 #[(0, .agg #[.int .u64 x, .int .i64 y])]).run Tryz.prog w = .ok (.slice (some ⟨w.heap.size, 0, none⟩) 1 1) (w.alloc (.cells #[.int .u64 x, .int .i64 y] 93)) :=
  run_buildSlice_one w Tryz.underlying80 (by kernel_rfl) (zs := [.int .u64 0, .int .i64 0]) (by kernel_rfl) (n := 2) (xs := [.int .u64 x, .int .i64 y]) (by decide) (by decide) rfl
theorem Tryz.infoPay : (Tryz.prog.info? 93).map (fun i => (i.zero, i.size, i.bytes)) = some (some (.agg #[.int .u64 0, .int .i64 0]), 2, 16) := by kernel_rfl

theorem pay_any {a w : World} {p : Nat} {o : Or} {L : List Pr} {Y : List (Int × Int)} (h : OSt a w p o L Y) (hY : Y.length ≤ 1000) (hb : 0 < o.bonds ∧ o.bonds ≤ 1000) (x : Int) :
    Calls Tryz.prog 41 #[.pointer (some ⟨p, 0, none⟩), .int .u64 x, .int .i64 1] w fun e w' => e = .returned (.tuple #[]) ∧ ∃ v, OSt a w' p { o with vY := v, bonds := o.bonds - 1 } L (Y ++ [(x, 1)]) ∧
      Chg w w' (p :: o.vY.ownBlock.toList) := by
  obtain ⟨i0, hi, hz0, hz1, hz2⟩ := info_parts Tryz.infoPay
  obtain ⟨-, -, -, -, -, c37, c38⟩ := h.blk.facts h.root
  have f37 := h.blk.free 37
  have f38 := h.blk.free 38
  replace hi := Lib.hid hi
  replace hz0 := Lib.hid hz0
  replace hz1 := Lib.hid hz1
  replace hz2 := Lib.hid hz2
  have H := Lib.hid h
  clear h
  go_enter Tryz.func41, Tryz.ntmps41
  go_wp2_with (at_builtin; refine wpList_append_row rfl _ _ rfl Tryz.underlying80 hi.out hz0.out hz1.out hz2.out rfl (H.out.alloc _).pay (news := payRow (x, 1)) (m := 1) ?rd ?b1 ?b2 ?_)
  case rd =>
    refine Src.ofSlice _ Tryz.underlying80 _ _ _ _ rfl (fun j u hu => ?_) (fun u hu => ?_)
    · rw [addr_add, Nat.zero_add]
      rw [cell_of_row _ _ _ _ _ _ (heap_alloc_last w _)]
      simpa [payRow] using hu
    · simp only [payRow, List.mem_cons, List.not_mem_nil, or_false] at hu
      rcases hu with rfl | rfl <;> rfl
  case b1 => unfold maxLen; omega
  case b2 => omega
  intro q2 k2 w2 own2 grow2 fr2
  obtain ⟨B2, S2, C2⟩ := (H.out.alloc (.cells #[.int .u64 x, .int .i64 1] 93)).appY (x, 1) own2 grow2 (by simpa using fr2)
  generalize Y.length + 1 = m2 at S2 C2 ⊢
  obtain ⟨-, -, -, -, -, d37, d38⟩ := B2.facts H.out.root
  have e37 := B2.free 37
  have e38 := B2.free 38
  have HS : Hid (OSt a ((w2.setCell ⟨p, 37, none⟩ (.slice q2 m2 k2)).setCell ⟨p, 38, none⟩ (.int .i64 (o.bonds - 1))) p { o with vY := .slice q2 m2 k2, bonds := o.bonds - 1 } L (Y ++ [(x, 1)]) ∧ Chg w ((w2.setCell ⟨p, 37, none⟩ (.slice q2 m2 k2)).setCell ⟨p, 38, none⟩ (.int .i64 (o.bonds - 1))) (p :: o.vY.ownBlock.toList)) :=
    ⟨S2.setB _, (((Chg.refl w (p :: o.vY.ownBlock.toList)).alloc _).trans C2 (fun k hk _ => hk)).setCell (.inl (by simp)) _⟩
  clear B2 S2 C2 own2 grow2 fr2 c37 c38 f37 f38 H
  obtain ⟨hb1, hb2⟩ := hb
  go_wp2_with fail
  go_end0
  exact ⟨rfl, _, HS.out⟩
end Go.Proofs.YtppaallnanodhaaGreatDoor
