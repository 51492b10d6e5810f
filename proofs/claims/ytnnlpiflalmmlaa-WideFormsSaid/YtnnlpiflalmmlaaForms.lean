/-
  WideForms: the walk. From bytes and from text, to bytes and to text: the program's answers are the document's.
-/
import Derived.Test.YtnnlpiflalmmlaaRefFrom
import Derived.Test.YtnnlpiflalmmlaaWidePrint
import Derived.Test.YtnnlpiflalmmlaaWideParse
import Derived.Test.YtnnlpiflalmmlaaKnows
import Derived.Test.YtnnlpiflalmmlaaReg
namespace Go.Proofs.Ytnnlpiflalmmlaa
set_option maxRecDepth 100000
open Go.RowKit

/-- An answer of From. -/
def FrP (w : World) (r0 r1 r2 r3 c : Int) (e : Ending) (w' : World) : Prop := e = .returned (.tuple #[.agg #[.int .u64 r0, .int .u64 r1, .int .u64 r2, .int .u64 r3], .int .i64 c]) ∧ Below w.heap.size w w'
theorem froms {xs : List Int} (bx : Bytes xs) (hx : xs.length ≤ maxLen) : ∃ r0 r1 r2 r3 c : Int,
    (∀ W q n, W.ownsRow 0 5 1 (.slice q xs.length n) xs.length (bc xs) → Calls Try.prog 22 #[.slice q xs.length n] W (FrP W r0 r1 r2 r3 c)) ∧
    (∀ W q n, Rd W (.slice q xs.length n) xs → Calls Try.prog 23 #[.slice q xs.length n] W (FrP W r0 r1 r2 r3 c)) := by
  by_cases h : xs.length = 32
  · have hf : By (fun i => xs.getD (31 - i) 0) := fun i hi => by
      have := bx (xs[31 - i]'(by omega)) (List.getElem_mem _)
      simpa [List.getD, show 31 - i < xs.length by omega] using this
    refine ⟨pd (fun i => xs.getD (31 - i) 0) 0 8, pd (fun i => xs.getD (31 - i) 0) 8 8, pd (fun i => xs.getD (31 - i) 0) 16 8, pd (fun i => xs.getD (31 - i) 0) 24 8, 0, fun W q n ho => ?_, fun W q n hr => ?_⟩
    · rcases ho.2 with ⟨e, _⟩ | ⟨g, cap, cur, e, _, hg, _⟩
      · simp at e; omega
      · simp only [Value.slice.injEq] at e
        obtain ⟨rfl, -, rfl⟩ := e
        have hc := ho.cells (g := g) rfl
        rw [h] at ho ⊢
        refine (From_any hf W g n (lt_of_block hg) (fun i hi => ?_)).mono ?_
        · have := hc i (.int .u8 (xs.getD i 0)) (by simp [bc, List.getD, show i < xs.length by omega])
          rw [addr_add, Nat.zero_add] at this
          rw [this, show 31 - (31 - i) = i by omega]
        · rintro e w1 ⟨r0, r1, r2, r3, c, rfl, ⟨rfl, rfl, rfl, rfl, rfl⟩, hb⟩
          exact ⟨rfl, hb⟩
    · obtain ⟨q', c', e, h0 | ⟨b, off, rfl, hc⟩⟩ := hr
      · rw [h0] at h; simp at h
      · simp only [Value.slice.injEq] at e
        obtain ⟨rfl, -, rfl⟩ := e
        have hb := lt_of_cell (hc 0 (by omega))
        rw [h] at hc ⊢
        refine (refFrom_any hf W b off n hb (fun i hi => ?_)).mono ?_
        · rw [hc i hi, show 31 - (31 - i) = i by omega]
        · rintro e w1 ⟨r0, r1, r2, r3, c, rfl, ⟨rfl, rfl, rfl, rfl, rfl⟩, hb⟩
          exact ⟨rfl, hb⟩
  · refine ⟨0, 0, 0, 0, 21, fun W q n _ => ?_, fun W q n _ => ?_⟩
    · refine (From_no W q xs.length n h hx).mono ?_
      rintro e w1 ⟨r0, r1, r2, r3, c, rfl, ⟨rfl, rfl, rfl, rfl, rfl⟩, hb⟩
      exact ⟨rfl, hb⟩
    · refine (refFrom_no W q xs.length n h hx).mono ?_
      rintro e w1 ⟨r0, r1, r2, r3, c, rfl, ⟨rfl, rfl, rfl, rfl, rfl⟩, hb⟩
      exact ⟨rfl, hb⟩
theorem parse_same {s : ByteArray} {r0 r1 r2 r3 c q0 q1 q2 q3 d : Int} (h : ParseP s r0 r1 r2 r3 c) (k : ParseP s q0 q1 q2 q3 d) : r0 = q0 ∧ r1 = q1 ∧ r2 = q2 ∧ r3 = q3 ∧ c = d := by
  obtain ⟨hd, h⟩ := h
  obtain ⟨kd, k⟩ := k
  have key : V r0 r1 r2 r3 = V q0 q1 q2 q3 ∧ c = d := by
    rcases h with ⟨h1, h2, h3, h4⟩ | ⟨h1, ⟨h2, h3⟩ | ⟨h2, h3, h4⟩⟩ <;> rcases k with ⟨k1, k2, k3, k4⟩ | ⟨k1, ⟨k2, k3⟩ | ⟨k2, k3, k4⟩⟩
    all_goals first | exact absurd h1 k2 | exact absurd k1 h2 | exact absurd h2 k2 | exact absurd k2 h2 | skip
    all_goals (refine ⟨?_, ?_⟩ <;> omega)
  obtain ⟨e0, e1, e2, e3⟩ := V_inj hd kd key.1
  exact ⟨e0, e1, e2, e3, key.2⟩
theorem Bytes_rd {a0 a1 a2 a3 : Int} (ha : D4 a0 a1 a2 a3) (w : World) :
    Calls Try.prog 26 #[.agg #[.int .u64 a0, .int .u64 a1, .int .u64 a2, .int .u64 a3]] w fun e w' => ∃ b, e = .returned (.slice (some ⟨b, 0, none⟩) 32 32) ∧ Rd w' (.slice (some ⟨b, 0, none⟩) 32 32) (bys (V a0 a1 a2 a3) 32) ∧ Below w.heap.size w w' := by
  refine (Bytes_any ha w).mono ?_
  rintro e w' ⟨b, rfl, _, hr, hb⟩
  have hl : (bys (V a0 a1 a2 a3) 32).length = 32 := by simp [bys]
  exact ⟨b, rfl, ⟨_, 32, by rw [hl], .inr ⟨b, 0, rfl, fun i hi => by rw [Nat.zero_add]; exact hr.cell i (by omega)⟩⟩, hb⟩

set_option maxHeartbeats 8000000 in
theorem Forms_walk {w : World} {a0 a1 a2 a3 : Int} {v : Value} {xs : List Int} {s : ByteArray} (ha : D4 a0 a1 a2 a3) (hr : Rd w v xs) (bx : Bytes xs) (hx : xs.length ≤ 140737488355328) (hs : s.size ≤ maxLen) :
    Calls Try.prog 5 #[.agg #[.int .u64 a0, .int .u64 a1, .int .u64 a2, .int .u64 a3], v, .string s] w fun e w' => e = .returned (.bool true) ∧ Below w.heap.size w w' := by
  obtain ⟨i0, hi, hz0, hz1, hz2⟩ := info_parts Try.infoU8
  replace hi := Lib.hid hi
  replace hz0 := Lib.hid hz0
  replace hz1 := Lib.hid hz1
  replace hz2 := Lib.hid hz2
  obtain ⟨r0, r1, r2, r3, cf, kf, kr⟩ := froms bx (Nat.le_trans hx (by unfold maxLen; omega))
  have KF := Lib.hid kf
  have KR := Lib.hid kr
  have HS := Lib.hid hs
  have HA4 := Lib.hid ha
  have N0 := Lib.hid (V_lo ha)
  obtain ⟨q, c, rfl⟩ := hr.len
  have HA0 := Lib.hid (At4.new w a0 a1 a2 a3)
  have B0 := Lib.hid ((Below.refl w.heap.size w).alloc (Nat.le_refl _) (.cells #[.int .u64 a0, .int .u64 a1, .int .u64 a2, .int .u64 a3] 24))
  have RV0 := Lib.hid (hr.alloc (.cells #[.int .u64 a0, .int .u64 a1, .int .u64 a2, .int .u64 a3] 24))
  have OWN0 : Hid (((w.alloc (.cells #[.int .u64 a0, .int .u64 a1, .int .u64 a2, .int .u64 a3] 24)).alloc (.cells #[] 5)).ownsRow 0 5 1 (.slice (some ⟨w.heap.size + 1, 0, none⟩) 0 0) 0 []) := by
    have h := own_empty (w.alloc (.cells #[.int .u64 a0, .int .u64 a1, .int .u64 a2, .int .u64 a3] 24)) 5 1
    have e : (w.alloc (.cells #[.int .u64 a0, .int .u64 a1, .int .u64 a2, .int .u64 a3] 24)).heap.size = w.heap.size + 1 := by simp
    rw [e] at h
    exact h
  clear kf kr hs ha hr bx
  go_enter Try.func5, Try.ntmps5
  go_wp2_with (at_builtin; refine wpList_append_row_w rfl _ _ rfl Try.underlying42 hi.out hz0.out hz1.out hz2.out rfl OWN0.out ((RV0.out.alloc _).src (P := Try.prog) Try.underlying42) ?b1 ?b2 ?_)
  case b1 => unfold maxLen; omega
  (try case b2 => omega)
  intro q2 k2 w2 own2 grow2 fr2
  have G2 : Below (w.alloc (.cells #[.int .u64 a0, .int .u64 a1, .int .u64 a2, .int .u64 a3] 24)).heap.size (w.alloc (.cells #[.int .u64 a0, .int .u64 a1, .int .u64 a2, .int .u64 a3] 24)) w2 := ((Below.refl _ _).alloc (Nat.le_refl _) (.cells #[] 5)).grown grow2 (by simp) (by intro g hg; simp [Value.ownBlock] at hg; simp; omega)
  have OW := Lib.hid own2
  have HA2 := Lib.hid (HA0.out.on G2)
  have RV2 := Lib.hid (RV0.out.on G2)
  have B2 := Lib.hid (B0.out.trans (G2.mono B0.out.size))
  clear own2 grow2 fr2 G2 HA0 RV0 B0
  go_wp2_with fail
  refine (KF.out w2 q2 k2 OW.out).mono ?_
  rintro e w3 ⟨rfl, hb⟩
  have X4 := Lib.hid (At4.new w3 r0 r1 r2 r3)
  have b4 := hb.trans ((Below.refl w3.heap.size w3).alloc (Nat.le_refl _) (.cells #[.int .u64 r0, .int .u64 r1, .int .u64 r2, .int .u64 r3] 24) |>.mono hb.size)
  have HA4w := Lib.hid (HA2.out.on b4)
  have RV4 := Lib.hid (RV2.out.on b4)
  have OW4 := Lib.hid (own_on OW.out b4)
  have B4 := Lib.hid (B2.out.trans (b4.mono B2.out.size))
  clear hb b4 HA2 RV2 OW B2 KF
  go_wp2_with fail
  generalize w3.alloc (.cells #[.int .u64 r0, .int .u64 r1, .int .u64 r2, .int .u64 r3] 24) = Wa4 at *
  generalize w3.heap.size = b8 at *
  refine (KR.out Wa4 q c RV4.out).mono ?_
  rintro e w5 ⟨rfl, hb⟩
  have Y6 := Lib.hid (At4.new w5 r0 r1 r2 r3)
  have b6 := hb.trans ((Below.refl w5.heap.size w5).alloc (Nat.le_refl _) (.cells #[.int .u64 r0, .int .u64 r1, .int .u64 r2, .int .u64 r3] 24) |>.mono hb.size)
  have HA6 := Lib.hid (HA4w.out.on b6)
  have X6 := Lib.hid (X4.out.on b6)
  have RV6 := Lib.hid (RV4.out.on b6)
  have OW6 := Lib.hid (own_on OW4.out b6)
  have B6 := Lib.hid (B4.out.trans (b6.mono B4.out.size))
  clear hb b6 HA4w X4 RV4 OW4 B4 KR
  go_wp2_with fail
  generalize w5.alloc (.cells #[.int .u64 r0, .int .u64 r1, .int .u64 r2, .int .u64 r3] 24) = W6 at *
  generalize w5.heap.size = b10 at *
  refine (Parse_any s HS.out W6).mono ?_
  rintro e w7 ⟨p0, p1, p2, p3, cp, rfl, hp, hb⟩
  have HP := Lib.hid hp
  have Z8 := Lib.hid (At4.new w7 p0 p1 p2 p3)
  have b8' := hb.trans ((Below.refl w7.heap.size w7).alloc (Nat.le_refl _) (.cells #[.int .u64 p0, .int .u64 p1, .int .u64 p2, .int .u64 p3] 24) |>.mono hb.size)
  have HA8 := Lib.hid (HA6.out.on b8')
  have X8 := Lib.hid (X6.out.on b8')
  have Y8 := Lib.hid (Y6.out.on b8')
  have RV8 := Lib.hid (RV6.out.on b8')
  have OW8 := Lib.hid (own_on OW6.out b8')
  have B8 := Lib.hid (B6.out.trans (b8'.mono B6.out.size))
  clear hb b8' HA6 X6 Y6 RV6 OW6 B6 hp
  go_wp2_with fail
  generalize w7.alloc (.cells #[.int .u64 p0, .int .u64 p1, .int .u64 p2, .int .u64 p3] 24) = W8 at *
  generalize w7.heap.size = b12 at *
  refine (refParse_any s HS.out W8).mono ?_
  rintro e w9 ⟨p0', p1', p2', p3', cp', rfl, hp, hb⟩
  obtain ⟨rfl, rfl, rfl, rfl, rfl⟩ := parse_same HP.out hp
  have HV := Lib.hid (At4.new w9 p0 p1 p2 p3)
  have b10' := hb.trans ((Below.refl w9.heap.size w9).alloc (Nat.le_refl _) (.cells #[.int .u64 p0, .int .u64 p1, .int .u64 p2, .int .u64 p3] 24) |>.mono hb.size)
  have HA := Lib.hid (HA8.out.on b10')
  have HX := Lib.hid (X8.out.on b10')
  have HY := Lib.hid (Y8.out.on b10')
  have HZ := Lib.hid (Z8.out.on b10')
  have RV := Lib.hid (RV8.out.on b10')
  have RW := Lib.hid (rd_of_row (own_on OW8.out b10'))
  have BZ := Lib.hid (B8.out.trans (b10'.mono B8.out.size))
  clear hb b10' HA8 X8 Y8 Z8 RV8 OW8 B8 hp HP
  go_wp2_with fail
  generalize w9.alloc (.cells #[.int .u64 p0, .int .u64 p1, .int .u64 p2, .int .u64 p3] 24) = wz at *
  generalize w9.heap.size = b14 at *
  refine wp_region_held_drew (S := fun W => Below wz.heap.size wz W ∧ True) (by kernel_rfl) (⟨(Below.refl _ _).drew, trivial⟩) (fun h0 => ?_)
  refine wpAnyH_take (i := 0) (v := ?_) (by rw [List.getElem?_toArray]; rfl) (by kernel_rfl) (by kernel_rfl) (by kernel_rfl) (by exact fun _ _ _ h => h) (Or.inl ⟨by rfl, ?_⟩) h0 ?_
  rotate_left
  · intro W hW
    obtain ⟨c0, c1, c2, c3⟩ := (HA.out.on hW.1).cell
    go_simp
    all_goals with_reducible rfl
  try simp only [Act.put, List.setIfInBounds_toArray, List.set_cons_zero, List.set_cons_succ]
  refine wpAnyH_take (i := 3) (v := ?_) (by rw [List.getElem?_toArray]; rfl) (by kernel_rfl) (by kernel_rfl) (by kernel_rfl) (by exact fun _ _ _ h => h) (Or.inl ⟨by rfl, ?_⟩) h0 ?_
  rotate_left
  · intro W hW
    obtain ⟨c0, c1, c2, c3⟩ := (HA.out.on hW.1).cell
    go_simp
    all_goals with_reducible rfl
  try simp only [Act.put, List.setIfInBounds_toArray, List.set_cons_zero, List.set_cons_succ]
  refine wpAnyH_ready (rs := [1]) (by kernel_rfl) (by simp) ?_
  refine AllReadyH.cons (by rw [List.getElem?_toArray]; rfl) (fun K hK => ?_) AllReadyH.nil
  rw [if_pos (by rfl)]
  have KK := Bytes_rd HA4.out wz.drew
  go_wp2_with fail
  refine KK.mono ?_
  rintro e w1 ⟨bb, rfl, hr1, hb1⟩
  have R1 := Lib.hid hr1
  clear hr1
  clear KK
  go_wp2_with fail
  refine hK.out _ _ (⟨h0.1.trans (hb1.mono h0.1.size), trivial⟩) (fun h1 => ?_)
  clear hK K
  try simp only [Act.put, List.setIfInBounds_toArray, List.set_cons_zero, List.set_cons_succ]
  clear hb1
  have g1 : Below wz.heap.size wz w1 ∧ Rd w1 (.slice (some ⟨bb, 0, none⟩) 32 32) (bys (V a0 a1 a2 a3) 32) := ⟨h1.1, R1.out⟩
  refine wpAnyH_strong (S' := fun W => Below wz.heap.size wz W ∧ Rd W (.slice (some ⟨bb, 0, none⟩) 32 32) (bys (V a0 a1 a2 a3) 32)) (fun _ h => ⟨h.1, trivial⟩) ?_
  refine wpAnyH_take (i := 2) (v := ?_) (by rw [List.getElem?_toArray]; rfl) (by kernel_rfl) (by kernel_rfl) (by kernel_rfl) (by exact fun _ _ _ h => h) (Or.inl ⟨by rfl, ?_⟩) g1 ?_
  rotate_left
  · intro W hW
    have ca := (hW.2).str (P := Try.prog) Try.underlying42 Try.underlying5 Try.underlying9
    go_simp
    all_goals with_reducible rfl
  try simp only [Act.put, List.setIfInBounds_toArray, List.set_cons_zero, List.set_cons_succ]
  refine wpAnyH_ready (rs := [4]) (by kernel_rfl) (by simp) ?_
  refine AllReadyH.cons (by rw [List.getElem?_toArray]; rfl) (fun K hK => ?_) AllReadyH.nil
  rw [if_pos (by rfl)]
  have KK := refBytes_any (x := ⟨a0, a1, a2, a3⟩) HA4.out w1
  go_wp2_with fail
  refine KK.mono ?_
  rintro e w4 ⟨vr, rfl, hf4⟩
  have hb4 := hf4.below
  have hr4 := hf4.rd
  have hl4 := W4.len ⟨a0, a1, a2, a3⟩
  obtain ⟨qr, nr, rfl⟩ := hr4.len
  rw [hl4] at hr4
  have R4 : Hid (Rd w4 (.slice qr 32 nr) (bys (V a0 a1 a2 a3) 32)) := hr4
  simp only [hl4]
  clear hf4 hr4 hl4
  clear KK
  go_wp2_with fail
  refine hK.out _ _ (⟨g1.1.trans (hb4.mono g1.1.size), g1.2.on hb4⟩) (fun h4 => ?_)
  clear hK K
  try simp only [Act.put, List.setIfInBounds_toArray, List.set_cons_zero, List.set_cons_succ]
  clear hb4
  have g4 : Below wz.heap.size wz w4 ∧ Rd w4 (.slice (some ⟨bb, 0, none⟩) 32 32) (bys (V a0 a1 a2 a3) 32) ∧ Rd w4 (.slice qr 32 nr) (bys (V a0 a1 a2 a3) 32) := ⟨h4.1, h4.2, R4.out⟩
  refine wpAnyH_strong (S' := fun W => Below wz.heap.size wz W ∧ Rd W (.slice (some ⟨bb, 0, none⟩) 32 32) (bys (V a0 a1 a2 a3) 32) ∧ Rd W (.slice qr 32 nr) (bys (V a0 a1 a2 a3) 32)) (fun _ h => ⟨h.1, h.2.1⟩) ?_
  refine wpAnyH_take (i := 5) (v := ?_) (by rw [List.getElem?_toArray]; rfl) (by kernel_rfl) (by kernel_rfl) (by kernel_rfl) (by exact fun _ _ _ h => h) (Or.inl ⟨by rfl, ?_⟩) g4 ?_
  rotate_left
  · intro W hW
    have ca := (hW.2.2).str (P := Try.prog) Try.underlying42 Try.underlying5 Try.underlying9
    go_simp
    all_goals with_reducible rfl
  try simp only [Act.put, List.setIfInBounds_toArray, List.set_cons_zero, List.set_cons_succ]
  refine wpAnyH_take (i := 6) (v := ?_) (by rw [List.getElem?_toArray]; rfl) (by kernel_rfl) (by kernel_rfl) (by kernel_rfl) (by exact fun _ _ _ h => h) (Or.inl ⟨by rfl, ?_⟩) g4 ?_
  rotate_left
  · intro W hW
    go_simp
    all_goals with_reducible rfl
  try simp only [Act.put, List.setIfInBounds_toArray, List.set_cons_zero, List.set_cons_succ]
  refine wpAnyH_take (i := 7) (v := ?_) (by rw [List.getElem?_toArray]; rfl) (by kernel_rfl) (by kernel_rfl) (by kernel_rfl) (by exact fun _ _ _ h => h) (Or.inl ⟨by rfl, ?_⟩) g4 ?_
  rotate_left
  · intro W hW
    go_simp
    all_goals with_reducible rfl
  try simp only [Act.put, List.setIfInBounds_toArray, List.set_cons_zero, List.set_cons_succ]
  refine wpAnyH_take (i := 8) (v := ?_) (by rw [List.getElem?_toArray]; rfl) (by kernel_rfl) (by kernel_rfl) (by kernel_rfl) (by exact fun _ _ _ h => h) (Or.inl ⟨by rfl, ?_⟩) g4 ?_
  rotate_left
  · intro W hW
    obtain ⟨c0, c1, c2, c3⟩ := (HX.out.on hW.1).cell
    go_simp
    all_goals with_reducible rfl
  try simp only [Act.put, List.setIfInBounds_toArray, List.set_cons_zero, List.set_cons_succ]
  refine wpAnyH_take (i := 9) (v := ?_) (by rw [List.getElem?_toArray]; rfl) (by kernel_rfl) (by kernel_rfl) (by kernel_rfl) (by exact fun _ _ _ h => h) (Or.inl ⟨by rfl, ?_⟩) g4 ?_
  rotate_left
  · intro W hW
    obtain ⟨c0, c1, c2, c3⟩ := (HY.out.on hW.1).cell
    go_simp
    all_goals with_reducible rfl
  try simp only [Act.put, List.setIfInBounds_toArray, List.set_cons_zero, List.set_cons_succ]
  refine wpAnyH_take (i := 10) (v := ?_) (by rw [List.getElem?_toArray]; rfl) (by kernel_rfl) (by kernel_rfl) (by kernel_rfl) (by exact fun _ _ _ h => h) (Or.inl ⟨by rfl, ?_⟩) g4 ?_
  rotate_left
  · intro W hW
    have heq := @eq4_true r0 r1 r2 r3
    go_simp
    all_goals with_reducible rfl
  try simp only [Act.put, List.setIfInBounds_toArray, List.set_cons_zero, List.set_cons_succ]
  refine wpAnyH_take (i := 11) (v := ?_) (by rw [List.getElem?_toArray]; rfl) (by kernel_rfl) (by kernel_rfl) (by kernel_rfl) (by exact fun _ _ _ h => h) (Or.inl ⟨by rfl, ?_⟩) g4 ?_
  rotate_left
  · intro W hW
    go_simp
    all_goals with_reducible rfl
  try simp only [Act.put, List.setIfInBounds_toArray, List.set_cons_zero, List.set_cons_succ]
  refine wpAnyH_take (i := 12) (v := ?_) (by rw [List.getElem?_toArray]; rfl) (by kernel_rfl) (by kernel_rfl) (by kernel_rfl) (by exact fun _ _ _ h => h) (Or.inl ⟨by rfl, ?_⟩) g4 ?_
  rotate_left
  · intro W hW
    go_simp
    all_goals with_reducible rfl
  try simp only [Act.put, List.setIfInBounds_toArray, List.set_cons_zero, List.set_cons_succ]
  refine wpAnyH_take (i := 13) (v := ?_) (by rw [List.getElem?_toArray]; rfl) (by kernel_rfl) (by kernel_rfl) (by kernel_rfl) (by exact fun _ _ _ h => h) (Or.inl ⟨by rfl, ?_⟩) g4 ?_
  rotate_left
  · intro W hW
    go_simp
    all_goals with_reducible rfl
  try simp only [Act.put, List.setIfInBounds_toArray, List.set_cons_zero, List.set_cons_succ]
  refine wpAnyH_take (i := 15) (v := ?_) (by rw [List.getElem?_toArray]; rfl) (by kernel_rfl) (by kernel_rfl) (by kernel_rfl) (by exact fun _ _ _ h => h) (Or.inl ⟨by rfl, ?_⟩) g4 ?_
  rotate_left
  · intro W hW
    go_simp
    all_goals with_reducible rfl
  try simp only [Act.put, List.setIfInBounds_toArray, List.set_cons_zero, List.set_cons_succ]
  refine wpAnyH_ready (rs := [14]) (by kernel_rfl) (by simp) ?_
  refine AllReadyH.cons (by rw [List.getElem?_toArray]; rfl) (fun K hK => ?_) AllReadyH.nil
  rw [if_pos (by rfl)]
  have KK := num_any cf w4
  go_wp2_with fail
  refine KK.mono ?_
  rintro e w14 ⟨rfl, rfl⟩
  skip
  clear KK
  go_wp2_with fail
  refine hK.out _ _ (g4) (fun h14 => ?_)
  clear hK K
  try simp only [Act.put, List.setIfInBounds_toArray, List.set_cons_zero, List.set_cons_succ]
  refine wpAnyH_take (i := 16) (v := ?_) (by rw [List.getElem?_toArray]; rfl) (by kernel_rfl) (by kernel_rfl) (by kernel_rfl) (by exact fun _ _ _ h => h) (Or.inl ⟨by rfl, ?_⟩) h14 ?_
  rotate_left
  · intro W hW
    go_simp
    all_goals with_reducible rfl
  try simp only [Act.put, List.setIfInBounds_toArray, List.set_cons_zero, List.set_cons_succ]
  refine wpAnyH_take (i := 17) (v := ?_) (by rw [List.getElem?_toArray]; rfl) (by kernel_rfl) (by kernel_rfl) (by kernel_rfl) (by exact fun _ _ _ h => h) (Or.inl ⟨by rfl, ?_⟩) h14 ?_
  rotate_left
  · intro W hW
    go_simp
    all_goals with_reducible rfl
  try simp only [Act.put, List.setIfInBounds_toArray, List.set_cons_zero, List.set_cons_succ]
  refine wpAnyH_take (i := 18) (v := ?_) (by rw [List.getElem?_toArray]; rfl) (by kernel_rfl) (by kernel_rfl) (by kernel_rfl) (by exact fun _ _ _ h => h) (Or.inl ⟨by rfl, ?_⟩) h14 ?_
  rotate_left
  · intro W hW
    go_simp
    all_goals with_reducible rfl
  try simp only [Act.put, List.setIfInBounds_toArray, List.set_cons_zero, List.set_cons_succ]
  refine wpAnyH_take (i := 19) (v := ?_) (by rw [List.getElem?_toArray]; rfl) (by kernel_rfl) (by kernel_rfl) (by kernel_rfl) (by exact fun _ _ _ h => h) (Or.inl ⟨by rfl, ?_⟩) h14 ?_
  rotate_left
  · intro W hW
    obtain ⟨c0, c1, c2, c3⟩ := (HA.out.on hW.1).cell
    go_simp
    all_goals with_reducible rfl
  try simp only [Act.put, List.setIfInBounds_toArray, List.set_cons_zero, List.set_cons_succ]
  refine wpAnyH_take (i := 21) (v := ?_) (by rw [List.getElem?_toArray]; rfl) (by kernel_rfl) (by kernel_rfl) (by kernel_rfl) (by exact fun _ _ _ h => h) (Or.inl ⟨by rfl, ?_⟩) h14 ?_
  rotate_left
  · intro W hW
    obtain ⟨c0, c1, c2, c3⟩ := (HA.out.on hW.1).cell
    go_simp
    all_goals with_reducible rfl
  try simp only [Act.put, List.setIfInBounds_toArray, List.set_cons_zero, List.set_cons_succ]
  refine wpAnyH_ready (rs := [20]) (by kernel_rfl) (by simp) ?_
  refine AllReadyH.cons (by rw [List.getElem?_toArray]; rfl) (fun K hK => ?_) AllReadyH.nil
  rw [if_pos (by rfl)]
  have KK := Print_any HA4.out w4
  go_wp2_with fail
  refine KK.mono ?_
  rintro e w20 ⟨⟨L, hL, rfl⟩, hb20⟩
  have HL := Lib.hid hL
  clear hL
  clear KK
  go_wp2_with fail
  refine hK.out _ _ (⟨h14.1.trans (hb20.mono h14.1.size), h14.2.1.on hb20, h14.2.2.on hb20⟩) (fun h20 => ?_)
  clear hK K
  try simp only [Act.put, List.setIfInBounds_toArray, List.set_cons_zero, List.set_cons_succ]
  clear hb20
  refine wpAnyH_ready (rs := [22]) (by kernel_rfl) (by simp) ?_
  refine AllReadyH.cons (by rw [List.getElem?_toArray]; rfl) (fun K hK => ?_) AllReadyH.nil
  rw [if_pos (by rfl)]
  have KK := refPrint_any HA4.out w20
  go_wp2_with fail
  refine KK.mono ?_
  rintro e w22 ⟨⟨K2, hK2, rfl⟩, hb22⟩
  obtain rfl := Len10_unique N0.out HL.out hK2
  clear hK2
  clear KK
  go_wp2_with fail
  refine hK.out _ _ (⟨h20.1.trans (hb22.mono h20.1.size), h20.2.1.on hb22, h20.2.2.on hb22⟩) (fun h22 => ?_)
  clear hK K
  try simp only [Act.put, List.setIfInBounds_toArray, List.set_cons_zero, List.set_cons_succ]
  clear hb22
  refine wpAnyH_take (i := 23) (v := ?_) (by rw [List.getElem?_toArray]; rfl) (by kernel_rfl) (by kernel_rfl) (by kernel_rfl) (by exact fun _ _ _ h => h) (Or.inl ⟨by rfl, ?_⟩) h22 ?_
  rotate_left
  · intro W hW
    go_simp
    all_goals with_reducible rfl
  try simp only [Act.put, List.setIfInBounds_toArray, List.set_cons_zero, List.set_cons_succ]
  refine wpAnyH_take (i := 24) (v := ?_) (by rw [List.getElem?_toArray]; rfl) (by kernel_rfl) (by kernel_rfl) (by kernel_rfl) (by exact fun _ _ _ h => h) (Or.inl ⟨by rfl, ?_⟩) h22 ?_
  rotate_left
  · intro W hW
    go_simp
    all_goals with_reducible rfl
  try simp only [Act.put, List.setIfInBounds_toArray, List.set_cons_zero, List.set_cons_succ]
  refine wpAnyH_take (i := 25) (v := ?_) (by rw [List.getElem?_toArray]; rfl) (by kernel_rfl) (by kernel_rfl) (by kernel_rfl) (by exact fun _ _ _ h => h) (Or.inl ⟨by rfl, ?_⟩) h22 ?_
  rotate_left
  · intro W hW
    go_simp
    all_goals with_reducible rfl
  try simp only [Act.put, List.setIfInBounds_toArray, List.set_cons_zero, List.set_cons_succ]
  refine wpAnyH_take (i := 26) (v := ?_) (by rw [List.getElem?_toArray]; rfl) (by kernel_rfl) (by kernel_rfl) (by kernel_rfl) (by exact fun _ _ _ h => h) (Or.inl ⟨by rfl, ?_⟩) h22 ?_
  rotate_left
  · intro W hW
    obtain ⟨c0, c1, c2, c3⟩ := (HZ.out.on hW.1).cell
    go_simp
    all_goals with_reducible rfl
  try simp only [Act.put, List.setIfInBounds_toArray, List.set_cons_zero, List.set_cons_succ]
  refine wpAnyH_take (i := 27) (v := ?_) (by rw [List.getElem?_toArray]; rfl) (by kernel_rfl) (by kernel_rfl) (by kernel_rfl) (by exact fun _ _ _ h => h) (Or.inl ⟨by rfl, ?_⟩) h22 ?_
  rotate_left
  · intro W hW
    obtain ⟨c0, c1, c2, c3⟩ := (HV.out.on hW.1).cell
    go_simp
    all_goals with_reducible rfl
  try simp only [Act.put, List.setIfInBounds_toArray, List.set_cons_zero, List.set_cons_succ]
  refine wpAnyH_take (i := 28) (v := ?_) (by rw [List.getElem?_toArray]; rfl) (by kernel_rfl) (by kernel_rfl) (by kernel_rfl) (by exact fun _ _ _ h => h) (Or.inl ⟨by rfl, ?_⟩) h22 ?_
  rotate_left
  · intro W hW
    have heq := @eq4_true p0 p1 p2 p3
    go_simp
    all_goals with_reducible rfl
  try simp only [Act.put, List.setIfInBounds_toArray, List.set_cons_zero, List.set_cons_succ]
  refine wpAnyH_take (i := 29) (v := ?_) (by rw [List.getElem?_toArray]; rfl) (by kernel_rfl) (by kernel_rfl) (by kernel_rfl) (by exact fun _ _ _ h => h) (Or.inl ⟨by rfl, ?_⟩) h22 ?_
  rotate_left
  · intro W hW
    go_simp
    all_goals with_reducible rfl
  try simp only [Act.put, List.setIfInBounds_toArray, List.set_cons_zero, List.set_cons_succ]
  refine wpAnyH_take (i := 30) (v := ?_) (by rw [List.getElem?_toArray]; rfl) (by kernel_rfl) (by kernel_rfl) (by kernel_rfl) (by exact fun _ _ _ h => h) (Or.inl ⟨by rfl, ?_⟩) h22 ?_
  rotate_left
  · intro W hW
    go_simp
    all_goals with_reducible rfl
  try simp only [Act.put, List.setIfInBounds_toArray, List.set_cons_zero, List.set_cons_succ]
  refine wpAnyH_take (i := 31) (v := ?_) (by rw [List.getElem?_toArray]; rfl) (by kernel_rfl) (by kernel_rfl) (by kernel_rfl) (by exact fun _ _ _ h => h) (Or.inl ⟨by rfl, ?_⟩) h22 ?_
  rotate_left
  · intro W hW
    go_simp
    all_goals with_reducible rfl
  try simp only [Act.put, List.setIfInBounds_toArray, List.set_cons_zero, List.set_cons_succ]
  refine wpAnyH_take (i := 33) (v := ?_) (by rw [List.getElem?_toArray]; rfl) (by kernel_rfl) (by kernel_rfl) (by kernel_rfl) (by exact fun _ _ _ h => h) (Or.inl ⟨by rfl, ?_⟩) h22 ?_
  rotate_left
  · intro W hW
    go_simp
    all_goals with_reducible rfl
  try simp only [Act.put, List.setIfInBounds_toArray, List.set_cons_zero, List.set_cons_succ]
  refine wpAnyH_ready (rs := [32]) (by kernel_rfl) (by simp) ?_
  refine AllReadyH.cons (by rw [List.getElem?_toArray]; rfl) (fun K hK => ?_) AllReadyH.nil
  rw [if_pos (by rfl)]
  have KK := num_any cp w22
  go_wp2_with fail
  refine KK.mono ?_
  rintro e w32 ⟨rfl, rfl⟩
  skip
  clear KK
  go_wp2_with fail
  refine hK.out _ _ (h22) (fun h32 => ?_)
  clear hK K
  try simp only [Act.put, List.setIfInBounds_toArray, List.set_cons_zero, List.set_cons_succ]
  refine wpAnyH_take (i := 34) (v := ?_) (by rw [List.getElem?_toArray]; rfl) (by kernel_rfl) (by kernel_rfl) (by kernel_rfl) (by exact fun _ _ _ h => h) (Or.inl ⟨by rfl, ?_⟩) h32 ?_
  rotate_left
  · intro W hW
    go_simp
    all_goals with_reducible rfl
  try simp only [Act.put, List.setIfInBounds_toArray, List.set_cons_zero, List.set_cons_succ]
  refine wpAnyH_take (i := 35) (v := ?_) (by rw [List.getElem?_toArray]; rfl) (by kernel_rfl) (by kernel_rfl) (by kernel_rfl) (by exact fun _ _ _ h => h) (Or.inl ⟨by rfl, ?_⟩) h32 ?_
  rotate_left
  · intro W hW
    go_simp
    all_goals with_reducible rfl
  try simp only [Act.put, List.setIfInBounds_toArray, List.set_cons_zero, List.set_cons_succ]
  refine wpAnyH_take (i := 36) (v := ?_) (by rw [List.getElem?_toArray]; rfl) (by kernel_rfl) (by kernel_rfl) (by kernel_rfl) (by exact fun _ _ _ h => h) (Or.inl ⟨by rfl, ?_⟩) h32 ?_
  rotate_left
  · intro W hW
    go_simp
    all_goals with_reducible rfl
  try simp only [Act.put, List.setIfInBounds_toArray, List.set_cons_zero, List.set_cons_succ]
  refine wpAnyH_take (i := 37) (v := ?_) (by rw [List.getElem?_toArray]; rfl) (by kernel_rfl) (by kernel_rfl) (by kernel_rfl) (by exact fun _ _ _ h => h) (Or.inl ⟨by rfl, ?_⟩) h32 ?_
  rotate_left
  · intro W hW
    go_simp
    all_goals with_reducible rfl
  try simp only [Act.put, List.setIfInBounds_toArray, List.set_cons_zero, List.set_cons_succ]
  refine wpAnyH_take (i := 38) (v := ?_) (by rw [List.getElem?_toArray]; rfl) (by kernel_rfl) (by kernel_rfl) (by kernel_rfl) (by exact fun _ _ _ h => h) (Or.inl ⟨by rfl, ?_⟩) h32 ?_
  rotate_left
  · intro W hW
    have ca := (RW.out.on hW.1).str (P := Try.prog) Try.underlying42 Try.underlying5 Try.underlying9
    go_simp
    all_goals with_reducible rfl
  try simp only [Act.put, List.setIfInBounds_toArray, List.set_cons_zero, List.set_cons_succ]
  refine wpAnyH_take (i := 39) (v := ?_) (by rw [List.getElem?_toArray]; rfl) (by kernel_rfl) (by kernel_rfl) (by kernel_rfl) (by exact fun _ _ _ h => h) (Or.inl ⟨by rfl, ?_⟩) h32 ?_
  rotate_left
  · intro W hW
    go_simp
    all_goals with_reducible rfl
  try simp only [Act.put, List.setIfInBounds_toArray, List.set_cons_zero, List.set_cons_succ]
  refine wpAnyH_take (i := 40) (v := ?_) (by rw [List.getElem?_toArray]; rfl) (by kernel_rfl) (by kernel_rfl) (by kernel_rfl) (by exact fun _ _ _ h => h) (Or.inl ⟨by rfl, ?_⟩) h32 ?_
  rotate_left
  · intro W hW
    have ca := (RV.out.on hW.1).str (P := Try.prog) Try.underlying42 Try.underlying5 Try.underlying9
    go_simp
    all_goals with_reducible rfl
  try simp only [Act.put, List.setIfInBounds_toArray, List.set_cons_zero, List.set_cons_succ]
  refine wpAnyH_take (i := 41) (v := ?_) (by rw [List.getElem?_toArray]; rfl) (by kernel_rfl) (by kernel_rfl) (by kernel_rfl) (by exact fun _ _ _ h => h) (Or.inl ⟨by rfl, ?_⟩) h32 ?_
  rotate_left
  · intro W hW
    go_simp
    all_goals with_reducible rfl
  try simp only [Act.put, List.setIfInBounds_toArray, List.set_cons_zero, List.set_cons_succ]
  refine wpAnyH_take (i := 42) (v := ?_) (by rw [List.getElem?_toArray]; rfl) (by kernel_rfl) (by kernel_rfl) (by kernel_rfl) (by exact fun _ _ _ h => h) (Or.inl ⟨by rfl, ?_⟩) h32 ?_
  rotate_left
  · intro W hW
    go_simp
    all_goals with_reducible rfl
  try simp only [Act.put, List.setIfInBounds_toArray, List.set_cons_zero, List.set_cons_succ]
  refine wpAnyH_take (i := 43) (v := ?_) (by rw [List.getElem?_toArray]; rfl) (by kernel_rfl) (by kernel_rfl) (by kernel_rfl) (by exact fun _ _ _ h => h) (Or.inl ⟨by rfl, ?_⟩) h32 ?_
  rotate_left
  · intro W hW
    go_simp
    all_goals with_reducible rfl
  try simp only [Act.put, List.setIfInBounds_toArray, List.set_cons_zero, List.set_cons_succ]
  refine wpAnyH_ready (rs := [44]) (by kernel_rfl) (by simp) ?_
  refine AllReadyH.cons (by rw [List.getElem?_toArray]; rfl) (fun K hK => ?_) AllReadyH.nil
  rw [if_pos (by rfl)]
  have KK := knows_any w22
  go_wp2_with fail
  refine KK.mono ?_
  rintro e w44 ⟨rfl, hb44⟩
  skip
  clear KK
  go_wp2_with fail
  refine hK.out _ _ (⟨h32.1.trans (hb44.mono h32.1.size), h32.2.1.on hb44, h32.2.2.on hb44⟩) (fun h44 => ?_)
  clear hK K
  try simp only [Act.put, List.setIfInBounds_toArray, List.set_cons_zero, List.set_cons_succ]
  clear hb44
  refine wpAnyH_take (i := 45) (v := ?_) (by rw [List.getElem?_toArray]; rfl) (by kernel_rfl) (by kernel_rfl) (by kernel_rfl) (by exact fun _ _ _ h => h) (Or.inl ⟨by rfl, ?_⟩) h44 ?_
  rotate_left
  · intro W hW
    go_simp
    all_goals with_reducible rfl
  try simp only [Act.put, List.setIfInBounds_toArray, List.set_cons_zero, List.set_cons_succ]
  refine wpAnyH_take (i := 46) (v := ?_) (by rw [List.getElem?_toArray]; rfl) (by kernel_rfl) (by kernel_rfl) (by kernel_rfl) (by exact fun _ _ _ h => h) (Or.inl ⟨by rfl, ?_⟩) h44 ?_
  rotate_left
  · intro W hW
    go_simp
    all_goals with_reducible rfl
  try simp only [Act.put, List.setIfInBounds_toArray, List.set_cons_zero, List.set_cons_succ]
  refine wpAnyH_done (by kernel_rfl) ?_ _
  go_wp2_with fail
  go_ret
  exact ⟨rfl, BZ.out.trans (h44.1.mono BZ.out.size)⟩
end Go.Proofs.Ytnnlpiflalmmlaa
