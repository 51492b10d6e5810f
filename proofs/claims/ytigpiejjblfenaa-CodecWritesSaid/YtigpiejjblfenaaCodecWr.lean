/-
  The walk of basculelaw03.CodecWrites.
-/
import Derived.Test.YtigpiejjblfenaaCodecIt
namespace Go.Proofs.Ytigpiejjblfenaa
set_option maxRecDepth 100000
open Go.RowKit

/-- The writer holds XW, the document's row XB; they lie apart. -/
structure WrS (w wr : World) (p : Nat) (vb : Value) (XW XB : List Int) : Prop where
  wv : ∃ v3, WrV wr p v3 XW ∧ (∀ g, v3.ownBlock = some g → w.heap.size ≤ g) ∧ ∀ g, vb.ownBlock = some g → v3.ownBlock ≠ some g
  ob : wr.ownsRow 0 5 1 vb XB.length (bc XB)
  fb : ∀ g, vb.ownBlock = some g → w.heap.size ≤ g ∧ g ≠ p
  below : Below w.heap.size w wr
section
variable {w wr w1 w2 : World} {p : Nat} {vb v' : Value} {XW XB ys Z : List Int} {m : Nat}
theorem WrS.on (h : WrS w wr p vb XW XB) (hb : Below wr.heap.size wr w1) : WrS w w1 p vb XW XB := by
  obtain ⟨v3, h1, h2, h3⟩ := h.wv
  exact ⟨⟨v3, h1.on hb, h2, h3⟩, own_on h.ob hb, h.fb, h.below.trans (hb.mono h.below.size)⟩
theorem WrS.grow (h : WrS w wr p vb XW XB) (hm : ys.length = m) (own : w2.ownsRow 0 5 1 v' (XB.length + m) (bc XB ++ bc ys)) (grow : wr.grownBy w2 vb.ownBlock) (fr : v'.ownBlock = vb.ownBlock ∨ v'.ownBlock = some wr.heap.size) : WrS w w2 p v' XW (XB ++ ys) := by
  subst hm
  obtain ⟨v3, h1, h2, h3⟩ := h.wv
  have hpl := h1.lt
  refine ⟨⟨v3, h1.chg (Chg.grown grow (S := vb.ownBlock.toList) (fun k hk => by simp [hk])) (fun hm => ?_) (fun g hg hm => ?_), h2, fun g hg => ?_⟩, by rw [List.length_append, bc_append]; exact own, fun g hg => ?_, h.below.grown grow h.below.size (fun k hk => (h.fb k hk).1)⟩
  · exact (h.fb p (by simpa using hm)).2 rfl
  · exact h3 g (by simpa using hm) hg
  · rcases fr with e | e
    · rw [e] at hg; exact h3 g hg
    · rw [e] at hg
      intro e3
      have := own_lt h1.own e3
      simp at hg; omega
  · rcases fr with e | e
    · rw [e] at hg; exact h.fb g hg
    · rw [e] at hg
      have := h.below.size
      simp at hg
      exact ⟨by omega, by omega⟩
theorem WrS.put (h : WrS w wr p vb XW XB) (hp : w.heap.size ≤ p) (k : ∀ v3, WrV wr p v3 XW → WSt wr p v3 w1 Z) : WrS w w1 p vb Z XB := by
  obtain ⟨v3, h1, h2, h3⟩ := h.wv
  obtain ⟨v4, k1, k2, k3⟩ := k v3 h1
  have hs := h.below.size
  refine ⟨⟨v4, k1, fun g hg => ?_, fun g hg => ?_⟩, own_chg2 h.ob k2 (fun g hg hm => ?_), h.fb, h.below.trans (k2.toBelow hs (fun x hx => ?_))⟩
  · rcases k3 with e | e
    · rw [e] at hg; exact h2 g hg
    · exact Nat.le_trans hs (e g hg)
  · rcases k3 with e | e
    · rw [e]; exact h3 g hg
    · intro e4
      have := e g e4
      have := own_lt h.ob hg
      omega
  · rcases List.mem_cons.1 hm with rfl | hm
    · exact (h.fb _ hg).2 rfl
    · exact h3 g hg (by simpa using hm)
  · rcases List.mem_cons.1 hx with rfl | hx
    · exact hp
    · exact h2 x (by simpa using hx)
end
/-- A row that is written over. -/
def Over (W wr : World) (q : Option Addr) (n : Nat) : Prop := Below W.heap.size W wr ∧ (n = 0 ∨ ∃ g cs, q = some ⟨g, 0, none⟩ ∧ W.heap.size ≤ g ∧ wr.heap[g]? = some (.cells cs 5 (0, 0)) ∧ n ≤ cs.size)
theorem Over.start {W w' : World} {q : Option Addr} {c : Nat} {xs : List Int} (hb : Below W.heap.size W w') (h : w'.ownsRow 0 5 1 (.slice q xs.length c) xs.length (bc xs)) (hf : ∀ k, (Value.slice q xs.length c).ownBlock = some k → W.heap.size ≤ k) : Over W w' q xs.length := by
  refine ⟨hb, ?_⟩
  rcases h.2 with ⟨_, h0⟩ | ⟨g, cap, cur, e, _, hg, hn, _, hc, _⟩
  · exact .inl h0
  · simp only [Value.slice.injEq] at e
    obtain ⟨rfl, -, -⟩ := e
    exact .inr ⟨g, cur, rfl, hf g rfl, hg, by omega⟩

set_option maxHeartbeats 16000000 in
theorem Writes_walk {w : World} {v : Value} {its : List It} (hI : RdIt w v its) (hn : its.length ≤ 140737488355328) :
    Calls Try.prog 3 #[v] w fun e w' => e = .returned (.bool true) ∧ Below w.heap.size w w' := by
  obtain ⟨i0, hi, hz0, hz1, hz2⟩ := info_parts Try.infoU8
  replace hi := Lib.hid hi
  replace hz0 := Lib.hid hz0
  replace hz1 := Lib.hid hz1
  replace hz2 := Lib.hid hz2
  obtain ⟨q, c, rfl⟩ : ∃ q c, v = .slice q its.length c := by obtain ⟨q, c, e, _⟩ := hI; exact ⟨q, c, e⟩
  have HI := Lib.hid hI
  have b1 : Below w.heap.size w (w.alloc (.cells #[.bool true, .slice none 0 0] 54)) := (Below.refl _ _).alloc (Nat.le_refl _) _
  have HB1 := Lib.hid b1
  have HW1 := Lib.hid (WrV.new w)
  clear hI b1
  go_enter Try.func3, Try.ntmps3
  go_wp2_with fail
  refine (NewWriter_any w).mono ?_
  rintro e w1 ⟨rfl, rfl⟩
  generalize w.alloc (.cells #[.bool true, .slice none 0 0] 54) = w1 at *
  go_wp2_with fail
  refine (knows_any _).mono ?_
  rintro e w2 ⟨rfl, hb2⟩
  have H0 : Hid (WrS w w2 w.heap.size (.slice none 0 0) [] []) := by
    show WrS _ _ _ _ _ _
    exact ⟨⟨.slice none 0 0, HW1.out.on hb2, by simp [Value.ownBlock], by simp [Value.ownBlock]⟩, World.ownsRow_nil _ 0 _ 1, by simp [Value.ownBlock], HB1.out.trans (hb2.mono HB1.out.size)⟩
  clear HB1 HW1 hb2
  go_wp2_with fail
  go_loopw [4, 5] (fun bv iv wr => ∃ (i : Nat) (X : List Int), iv = .int .i64 i ∧ i ≤ its.length ∧ X.length ≤ 65536 ∧ (∃ q c, bv = .slice q X.length c) ∧ Hid (WrS w wr w.heap.size bv X X)) (fun _ iv _ => its.length - (intOf iv).toNat)
  case atStart => exact ⟨0, [], rfl, by omega, by simp, ⟨_, _, rfl⟩, H0⟩
  case round =>
    clear H0
    obtain ⟨i, X, rfl, hil, hle, ⟨qb, cb, rfl⟩, hS⟩ := hrel
    by_cases hlt : i < its.length
    · obtain ⟨b, off, vu, vw, vh, vb, rfl, hit, g0, g1, g2, g3, g4⟩ := HI.out.at hlt
      have HG := Lib.hid (And.intro g0 (And.intro g1 (And.intro g2 (And.intro g3 g4))))
      obtain ⟨x, hx⟩ : ∃ x, its.getD i it0 = x := ⟨_, rfl⟩
      rw [hx] at hit g0 HG
      clear hx
      have HIT := Lib.hid hit
      have c0 := hS.out.below.cell (lt_of_cell g0) |>.trans g0
      have c1 := hS.out.below.cell (lt_of_cell g1) |>.trans g1
      have c2 := hS.out.below.cell (lt_of_cell g2) |>.trans g2
      have c3 := hS.out.below.cell (lt_of_cell g3) |>.trans g3
      have c4 := hS.out.below.cell (lt_of_cell g4) |>.trans g4
      have KB := Lib.hid (lawBytes_any (hit.on hS.out.below))
      obtain ⟨kx, hkx⟩ : ∃ kx, x.k = kx := ⟨_, rfl⟩
      rw [hkx] at c0 g0 HG KB
      have HKX := Lib.hid hkx
      clear g0 g1 g2 g3 g4 hit hkx
      go_wp2_with fail
      refine KB.out.mono ?_
      rintro e w3 ⟨vm, ys, rfl, hbu, hcut⟩
      have S3 := Lib.hid (hS.out.on hbu.below)
      have RM := Lib.hid hbu.rd
      obtain ⟨qm, cm, rfl⟩ := own_slice hbu.own
      have HCUT := Lib.hid hcut
      clear hbu hcut c0 c1 c2 c3 c4 hS KB
      by_cases hfit : X.length + x.bytes.length ≤ 65536
      · have hys : ys = x.bytes := by
          rcases HCUT.out.2 with e | e
          · exact e
          · omega
        have hyl : ys.length + X.length ≤ 65536 := by rw [hys]; omega
        have HYS := Lib.hid hys
        have dd : ¬ (65536 - (X.length : Int)) < (ys.length : Int) := by omega
        have dd2 : (ys.length : Int) ≤ 65536 - (X.length : Int) := by omega
        clear hys HCUT
        go_wp2_with (at_builtin; refine wpList_append_row rfl _ _ rfl Try.underlying26 hi.out hz0.out hz1.out hz2.out rfl S3.out.ob (Rd.src (P := Try.prog) Try.underlying26 RM.out) ?b1 ?b2 ?_)
        case b1 => unfold maxLen; omega
        case b2 => omega
        intro q4 k4 w4 own4 grow4 fr4
        have S4 := Lib.hid (S3.out.grow rfl own4 grow4 fr4)
        clear own4 grow4 fr4 S3 RM
        obtain ⟨h0, h1, h2, h3, h4⟩ := HG.out
        have c0 := S4.out.below.cell (lt_of_cell h0) |>.trans h0
        have c1 := S4.out.below.cell (lt_of_cell h1) |>.trans h1
        have c2 := S4.out.below.cell (lt_of_cell h2) |>.trans h2
        have c3 := S4.out.below.cell (lt_of_cell h3) |>.trans h3
        have c4 := S4.out.below.cell (lt_of_cell h4) |>.trans h4
        obtain ⟨v3, hW3, -, -⟩ := S4.out.wv
        have hIT4 := HIT.out.on S4.out.below
        rw [HKX.out] at hIT4
        have KP := Lib.hid (put_fits hW3 hIT4 hfit)
        have HW3 := Lib.hid hW3
        clear hIT4 hW3 h0 h1 h2 h3 h4
        go_wp2_with fail
        refine KP.out.mono ?_
        rintro e w5 ⟨rfl, hw5⟩
        have S5 := Lib.hid (S4.out.put (Nat.le_refl _) (fun u hu => by
          have e1 : u = v3 := by
            have := hu.cells.2.1
            rw [HW3.out.cells.2.1] at this
            exact (Option.some.inj this).symm
          rw [e1]
          exact hw5))
        rw [← HYS.out] at S5
        have hZl : (X ++ ys).length ≤ 65536 := by rw [List.length_append]; omega
        have hZe : X.length + ys.length = (X ++ ys).length := by rw [List.length_append]
        rw [hZe] at S5
        rw [hZe]
        obtain ⟨Z, hZ⟩ : ∃ Z, X ++ ys = Z := ⟨_, rfl⟩
        rw [hZ] at S5 hZl
        rw [hZ]
        clear hw5 KP HW3 S4 HYS c0 c1 c2 c3 c4 hZ hZe dd dd2 hyl
        go_wp2_with fail
        refine (num_any _ _).mono ?_
        rintro e wx ⟨rfl, rfl⟩
        go_wp2_with fail
        obtain ⟨v6, hW6, -, -⟩ := S5.out.wv
        refine (WBytes_any hW6 hZl).mono ?_
        rintro e w6 ⟨u, rfl, hu⟩
        obtain ⟨qu, cu, rfl⟩ := hu.1
        have S6 := Lib.hid (S5.out.on hu.2.2.1)
        have OV := Lib.hid (Over.start hu.2.2.1 hu.2.1 hu.2.2.2)
        have ca := hu.rd.str (P := Try.prog) Try.underlying26 Try.underlying5 Try.underlying9
        have cb' := (rd_of_row S6.out.ob).str (P := Try.prog) Try.underlying26 Try.underlying5 Try.underlying9
        clear hu hW6 S6
        go_wp2_with fail
        obtain ⟨wo, rfl⟩ : ∃ wo : World, wo = w5 := ⟨_, rfl⟩
        clear ca cb'
        go_loopw [9] (fun kv wr => ∃ k : Nat, kv = .int .i64 k ∧ k ≤ Z.length ∧ Hid (Over wo wr qu Z.length)) (fun kv _ => Z.length - (intOf kv).toNat)
        case atStart => exact ⟨0, rfl, by omega, OV⟩
        case round =>
          clear OV
          obtain ⟨k, rfl, hk, hO⟩ := hrel
          by_cases hkt : k < Z.length
          · obtain ⟨g, cs, rfl, hgl, hg, hcs⟩ : ∃ g cs, qu = some ⟨g, 0, none⟩ ∧ wo.heap.size ≤ g ∧ wr.heap[g]? = some (.cells cs 5 (0, 0)) ∧ Z.length ≤ cs.size := by
              rcases hO.out.2 with e | e
              · omega
              · exact e
            have fk := Joins.unfrozen_of_block hg k
            obtain ⟨cv, hcv⟩ : ∃ cv, wr.cell? ⟨g, k, none⟩ = some cv := by
              rw [Joins.cell_of_block hg]
              exact ⟨_, Array.getElem?_eq_getElem (show k < cs.size by omega)⟩
            have HN : Hid (Over wo (wr.setCell ⟨g, k, none⟩ (.int .u8 99)) (some ⟨g, 0, none⟩) Z.length) :=
              ⟨hO.out.1.setCell (p := ⟨g, k, none⟩) hgl _, .inr ⟨g, _, rfl, hgl, Joins.block_setCell hg (i := k) (.int .u8 99), by simpa using hcs⟩⟩
            clear hO hg
            go_wp2_with fail
            go_roundw
            case rel => exact ⟨k + 1, by go_num, by omega, HN⟩
            case measure => simp [intOf]; omega
          · have HN := Lib.hid (S5.out.on hO.out.1)
            clear hO S5
            go_wp2_with fail
            refine ⟨⟨i + 1, Z, by go_num, by omega, hZl, ⟨_, _, rfl⟩, HN⟩, by simp [intOf]; omega⟩
      · have dd : (65536 - (X.length : Int)) < (ys.length : Int) := by
          rcases HCUT.out.2 with e | e
          · rw [e]; omega
          · omega
        clear HCUT RM
        obtain ⟨h0, h1, h2, h3, h4⟩ := HG.out
        have c0 := S3.out.below.cell (lt_of_cell h0) |>.trans h0
        have c1 := S3.out.below.cell (lt_of_cell h1) |>.trans h1
        have c2 := S3.out.below.cell (lt_of_cell h2) |>.trans h2
        have c3 := S3.out.below.cell (lt_of_cell h3) |>.trans h3
        have c4 := S3.out.below.cell (lt_of_cell h4) |>.trans h4
        obtain ⟨v3, hW3, -, -⟩ := S3.out.wv
        have hIT4 := HIT.out.on S3.out.below
        rw [HKX.out] at hIT4
        have KP := Lib.hid (put_full hW3 hIT4 hle (by omega))
        clear hIT4 hW3 h0 h1 h2 h3 h4
        go_wp2_with fail
        refine KP.out.mono ?_
        rintro e w5 ⟨rfl, hb5⟩
        have S5 := Lib.hid (S3.out.on hb5)
        clear hb5 KP S3 c0 c1 c2 c3 c4 dd
        obtain ⟨Z, rfl⟩ : ∃ Z, Z = X := ⟨_, rfl⟩
        have hZl := hle
        go_wp2_with fail
        refine (num_any _ _).mono ?_
        rintro e wx ⟨rfl, rfl⟩
        go_wp2_with fail
        obtain ⟨v6, hW6, -, -⟩ := S5.out.wv
        refine (WBytes_any hW6 hZl).mono ?_
        rintro e w6 ⟨u, rfl, hu⟩
        obtain ⟨qu, cu, rfl⟩ := hu.1
        have S6 := Lib.hid (S5.out.on hu.2.2.1)
        have OV := Lib.hid (Over.start hu.2.2.1 hu.2.1 hu.2.2.2)
        have ca := hu.rd.str (P := Try.prog) Try.underlying26 Try.underlying5 Try.underlying9
        have cb' := (rd_of_row S6.out.ob).str (P := Try.prog) Try.underlying26 Try.underlying5 Try.underlying9
        clear hu hW6 S6
        go_wp2_with fail
        obtain ⟨wo, rfl⟩ : ∃ wo : World, wo = w5 := ⟨_, rfl⟩
        clear ca cb'
        go_loopw [9] (fun kv wr => ∃ k : Nat, kv = .int .i64 k ∧ k ≤ Z.length ∧ Hid (Over wo wr qu Z.length)) (fun kv _ => Z.length - (intOf kv).toNat)
        case atStart => exact ⟨0, rfl, by omega, OV⟩
        case round =>
          clear OV
          obtain ⟨k, rfl, hk, hO⟩ := hrel
          by_cases hkt : k < Z.length
          · obtain ⟨g, cs, rfl, hgl, hg, hcs⟩ : ∃ g cs, qu = some ⟨g, 0, none⟩ ∧ wo.heap.size ≤ g ∧ wr.heap[g]? = some (.cells cs 5 (0, 0)) ∧ Z.length ≤ cs.size := by
              rcases hO.out.2 with e | e
              · omega
              · exact e
            have fk := Joins.unfrozen_of_block hg k
            obtain ⟨cv, hcv⟩ : ∃ cv, wr.cell? ⟨g, k, none⟩ = some cv := by
              rw [Joins.cell_of_block hg]
              exact ⟨_, Array.getElem?_eq_getElem (show k < cs.size by omega)⟩
            have HN : Hid (Over wo (wr.setCell ⟨g, k, none⟩ (.int .u8 99)) (some ⟨g, 0, none⟩) Z.length) :=
              ⟨hO.out.1.setCell (p := ⟨g, k, none⟩) hgl _, .inr ⟨g, _, rfl, hgl, Joins.block_setCell hg (i := k) (.int .u8 99), by simpa using hcs⟩⟩
            clear hO hg
            go_wp2_with fail
            go_roundw
            case rel => exact ⟨k + 1, by go_num, by omega, HN⟩
            case measure => simp [intOf]; omega
          · have HN := Lib.hid (S5.out.on hO.out.1)
            clear hO S5
            go_wp2_with fail
            refine ⟨⟨i + 1, Z, by go_num, by omega, hZl, ⟨_, _, rfl⟩, HN⟩, by simp [intOf]; omega⟩
    · obtain rfl : i = its.length := by omega
      have HB := Lib.hid hS.out.below
      clear hS
      go_wp2_with fail
      go_ret
      exact ⟨rfl, HB.out⟩
end Go.Proofs.Ytigpiejjblfenaa
