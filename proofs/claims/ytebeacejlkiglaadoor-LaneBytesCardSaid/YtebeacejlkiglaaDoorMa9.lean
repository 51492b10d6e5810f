/-
  The document's Check.; Rows of hashes of the call's own; the law's copies of proofs.; The levels of a list: items, and the level above.
-/
import Derived.Test.YtebeacejlkiglaaDoorMa2
import Derived.Test.YtebeacejlkiglaaDoorMa8
namespace Go.Proofs.YtebeacejlkiglaaDoor
set_option maxRecDepth 100000
open Go.RowKit

def pr (A B : List Int) : List Int := sha (frm (sn pairS) [A, B])
/-- What comes out of the way up. -/
def chk : Nat → Nat → Nat → List Int → List (List Int) → List Int
  | 0, _, _, h, _ => h
  | k + 1, p, c, h, S => if c ≤ 1 then h else if bes p < c then chk k (p / 2) ((c + 1) / 2) (if p % 2 = 1 then pr (S.getD 0 []) h else pr h (S.getD 0 [])) (S.drop 1) else chk k (p / 2) ((c + 1) / 2) h S
/-- A slice of hashes. -/
def RdHs (w : World) (q : Option Addr) (Ss : List (List Int)) : Prop := Ss = [] ∨ ∃ b off, q = some ⟨b, off, none⟩ ∧ ∀ i, i < Ss.length → rowOf w b (off + i * 32) 32 = hc (Ss.getD i [])
theorem blk_onB2 {w w' : World} {b : Nat} {x : Obj} (h : w.heap[b]? = some x) (hb : Below w.heap.size w w') : w'.heap[b]? = some x := by
  rw [hb.block b (Array.getElem?_eq_some_iff.1 h).1]; exact h
theorem rowOf_on {w w' : World} {b o n : Nat} (h : 0 < (rowOf w b o n).length) (hb : Below w.heap.size w w') : rowOf w' b o n = rowOf w b o n := by
  unfold rowOf at *
  cases e : w.heap[b]? with
  | none => rw [e] at h; simp at h
  | some x => rw [blk_onB2 e hb]
theorem RdHs.on {w w' : World} {q : Option Addr} {Ss : List (List Int)} (h : RdHs w q Ss) (hS : ∀ i, i < Ss.length → (Ss.getD i []).length = 32) (hb : Below w.heap.size w w') : RdHs w' q Ss := by
  rcases h with h | ⟨b, off, e, hx⟩
  · exact .inl h
  · refine .inr ⟨b, off, e, fun i hi => ?_⟩
    rw [rowOf_on (by rw [hx i hi, hc_len, hS i hi]; omega) hb]
    exact hx i hi
/-- What stands in memory on the way up. -/
structure CSt (w wr : World) (G : List Int) (o : Obj) (b7 : Nat) (H : List Int) (q : Option Addr) (Ss : List (List Int)) : Prop where
  below : Below w.heap.size w wr
  hA : HashAt wr w.heap.size G
  hP : wr.heap[w.heap.size + 1]? = some o
  hH : HashAt wr b7 H
  lH : H.length = 32
  bH : Bytes H
  hS : RdHs wr q Ss
theorem CSt.next {w wr w3 : World} {G : List Int} {o : Obj} {b7 : Nat} {H Y : List Int} {q : Option Addr} {Ss : List (List Int)} (h : CSt w wr G o b7 H q Ss) (h3 : HashAt w3 b7 H) (hl : ∀ i, i < Ss.length → (Ss.getD i []).length = 32) (hb : Below wr.drew.heap.size wr.drew w3) (hw : w.heap.size + 1 < b7) (hY : Y.length = 32) (bY : Bytes Y) (hnb : Ss ≠ [] → ∀ b off, q = some ⟨b, off, none⟩ → b < w.heap.size) : CSt w (w3.setCells b7 0 (hc Y)) G o b7 Y q Ss := by
  have hb' : Below wr.heap.size wr w3 := ((Below.refl wr.heap.size wr).drew).trans hb
  have hne : w.heap.size ≠ b7 := by omega
  have hne1 : w.heap.size + 1 ≠ b7 := by omega
  refine ⟨below_setCells' _ (by omega) _ _ (h.below.trans (hb'.mono h.below.size)), ?_, ?_, h3.put h.lH hY, hY, bY, ?_⟩
  · have := h.hA.on hb'
    unfold HashAt at this ⊢
    rw [setCells_other hne]; exact this
  · rw [setCells_other hne1]; exact blk_onB2 h.hP hb'
  · rcases h.hS with hs | ⟨b, off, e, hx⟩
    · exact .inl hs
    · refine .inr ⟨b, off, e, fun i hi => ?_⟩
      have hbb : b ≠ b7 := by
        have := hnb (fun h0 => by rw [h0] at hi; simp at hi) b off e
        omega
      have h1 : rowOf w3 b (off + i * 32) 32 = hc (Ss.getD i []) := by
        rw [rowOf_on (by rw [hx i hi, hc_len, hl i hi]; omega) hb']; exact hx i hi
      unfold rowOf at h1 ⊢
      rw [setCells_other hbb]; exact h1
def ckR (P C : Int) (Ss : List (List Int)) (xs G : List Int) : Int := if okPf P C Ss.length = true then (if hList C (chk 17 P.toNat C.toNat (hItem P xs) Ss) = G then 0 else 22) else 21

set_option maxHeartbeats 8000000 in
theorem refCheck_any {w : World} {P C : Int} {q : Option Addr} {k : Nat} {Ss : List (List Int)} {G xs : List Int} {v : Value} (hG : G.length = 32) (hs : RdHs w q Ss) (hS : ∀ i, i < Ss.length → (Ss.getD i []).length = 32 ∧ Bytes (Ss.getD i [])) (hn : Ss.length ≤ maxLen) (hr : Rd w v xs) (bx : Bytes xs) (hx : xs.length ≤ 4000) :
    Calls Tryd.prog 19 #[.agg (hc G).toArray, v, .agg #[.int .i64 P, .int .i64 C, .slice q Ss.length k]] w fun e w' => e = .returned (.int .i64 (ckR P C Ss xs G)) ∧ Below w.heap.size w w' := by
  have b1 : Below w.heap.size w (w.alloc (.cells (hc G).toArray 36)) := (Below.refl _ _).alloc (Nat.le_refl _) _
  have b2 : Below (w.alloc (.cells (hc G).toArray 36)).heap.size (w.alloc (.cells (hc G).toArray 36)) ((w.alloc (.cells (hc G).toArray 36)).alloc (.cells #[.int .i64 P, .int .i64 C, .slice q Ss.length k] 32)) := (Below.refl _ _).alloc (Nat.le_refl _) _
  have hz : (w.alloc (.cells (hc G).toArray 36)).heap.size = w.heap.size + 1 := by simp
  have HA := Lib.hid ((HashAt.new w G).on b2)
  have hp := heap_alloc_new (w.alloc (.cells (hc G).toArray 36)) (.cells #[.int .i64 P, .int .i64 C, .slice q Ss.length k] 32)
  rw [hz] at hp
  have HP := Lib.hid hp
  have B0 := Lib.hid (b1.trans (b2.mono b1.size))
  have NB : Hid (Ss ≠ [] → ∀ b off, q = some ⟨b, off, none⟩ → b < w.heap.size) := by
    show _ → _
    intro h0 b off e
    rcases hs with h | ⟨b', off', e', hx⟩
    · exact absurd h h0
    · have hp : 0 < Ss.length := List.length_pos_iff.2 h0
      rw [e] at e'
      simp only [Option.some.injEq, Addr.mk.injEq] at e'
      obtain ⟨rfl, rfl, -⟩ := e'
      have h1 := hx 0 hp
      have h2 : (rowOf w b (off + 0 * 32) 32).length = 32 := by rw [h1, hc_len, (hS 0 hp).1]
      unfold rowOf at h2
      cases hh : w.heap[b]? with
      | none => rw [hh] at h2; simp at h2
      | some x => exact (Array.getElem?_eq_some_iff.1 hh).1
  have HSl : Hid (∀ i, i < Ss.length → (Ss.getD i []).length = 32) := fun i hi => (hS i hi).1
  have HSS := Lib.hid hS
  have HS0 : Hid (RdHs ((w.alloc (.cells (hc G).toArray 36)).alloc (.cells #[.int .i64 P, .int .i64 C, .slice q Ss.length k] 32)) q Ss) := hs.on HSl.out B0.out
  have HR := Lib.hid (hr.on B0.out)
  have HX := Lib.hid bx
  have HG := Lib.hid hG
  have c0 : ((w.alloc (.cells (hc G).toArray 36)).alloc (.cells #[.int .i64 P, .int .i64 C, .slice q Ss.length k] 32)).cell? ⟨w.heap.size + 1, 0, none⟩ = some (.int .i64 P) := (Joins.cell_of_block hp 0).trans rfl
  have c1 : ((w.alloc (.cells (hc G).toArray 36)).alloc (.cells #[.int .i64 P, .int .i64 C, .slice q Ss.length k] 32)).cell? ⟨w.heap.size + 1, 1, none⟩ = some (.int .i64 C) := (Joins.cell_of_block hp 1).trans rfl
  have c2 : ((w.alloc (.cells (hc G).toArray 36)).alloc (.cells #[.int .i64 P, .int .i64 C, .slice q Ss.length k] 32)).cell? ⟨w.heap.size + 1, 2, none⟩ = some (.slice q Ss.length k) := (Joins.cell_of_block hp 2).trans rfl
  have KR := Lib.hid (refRight_any (w := (w.alloc (.cells (hc G).toArray 36)).alloc (.cells #[.int .i64 P, .int .i64 C, .slice q Ss.length k] 32)) (P := P) (C := C) (q := q) (k := k) hn)
  clear hp hz b1 b2 hs hr bx hS hG
  go_enter Tryd.func19, Tryd.ntmps19
  go_wp2_with fail
  refine KR.out.mono ?_
  rintro e w1 ⟨rfl, hb1⟩
  have HA1 := Lib.hid (HA.out.on hb1)
  have HP1 := Lib.hid (blk_onB2 HP.out hb1)
  have HS1 : Hid (RdHs w1 q Ss) := HS0.out.on HSl.out hb1
  have HR1 := Lib.hid (HR.out.on hb1)
  have B1 := Lib.hid (B0.out.trans (hb1.mono B0.out.size))
  clear hb1 HA HP HS0 HR B0 KR c0 c1 c2
  by_cases hok : okPf P C Ss.length = true
  case neg =>
    have hok' : okPf P C Ss.length = false := by simpa using hok
    have HC : Hid (ckR P C Ss xs G = 21) := Lib.hid (by unfold ckR; rw [if_neg hok])
    rw [hok']
    clear hok hok'
    go_wp2_with fail
    go_ret
    exact ⟨by rw [HC.out]; rfl, B1.out⟩
  have HC : Hid (ckR P C Ss xs G = if hList C (chk 17 P.toNat C.toNat (hItem P xs) Ss) = G then 0 else 22) := Lib.hid (by unfold ckR; rw [if_pos hok])
  rw [hok]
  obtain ⟨p1, p2, p3, p4⟩ := of_decide_eq_true hok
  clear hok
  obtain ⟨p0, rfl⟩ : ∃ p0 : Nat, P = p0 := ⟨P.toNat, by omega⟩
  obtain ⟨k0, rfl⟩ : ∃ k0 : Nat, C = k0 := ⟨C.toNat, by omega⟩
  rw [Int.toNat_natCast, Int.toNat_natCast] at HC p4
  have hp0 : p0 < k0 := by omega
  have hk0 : k0 ≤ 65536 := by omega
  clear p1 p2 p3
  have HL4 := Lib.hid p4
  have h17 : Ss.length ≤ 17 := by rw [p4]; exact sd_le _ _ _
  clear p4
  have c0 : w1.cell? ⟨w.heap.size + 1, 0, none⟩ = some (.int .i64 p0) := (Joins.cell_of_block HP1.out 0).trans rfl
  go_wp2_with fail
  refine (refItem_any (by omega) (by omega) HR1.out HX.out (by omega)).mono ?_
  rintro e w2 ⟨rfl, hb2⟩
  have hlI : (hItem p0 xs).length = 32 := sha_len _
  have hbI : Bytes (hItem p0 xs) := sha_bytes _
  obtain ⟨I, hI⟩ : ∃ I, hItem p0 xs = I := ⟨_, rfl⟩
  rw [hI] at hlI hbI HC ⊢
  clear hI c0
  have b3 : Below w2.heap.size w2 ((w2.alloc (.cells (hc zero32).toArray 36)).setCells w2.heap.size 0 (hc I)) := below_setCells' _ (Nat.le_refl _) _ _ ((Below.refl _ _).alloc (Nat.le_refl _) _)
  have b23 := hb2.trans (b3.mono hb2.size)
  have ct := (HashAt.new w2 zero32).there zero32_len
  have HI := Lib.hid ((HashAt.new w2 zero32).put zero32_len hlI)
  have lI := hc_len I
  have HA2 := Lib.hid (HA1.out.on b23)
  have HP2 := Lib.hid (blk_onB2 HP1.out b23)
  have HS2 : Hid (RdHs ((w2.alloc (.cells (hc zero32).toArray 36)).setCells w2.heap.size 0 (hc I)) q Ss) := HS1.out.on HSl.out b23
  have B2 := Lib.hid (B1.out.trans (b23.mono B1.out.size))
  have c0 : ((w2.alloc (.cells (hc zero32).toArray 36)).setCells w2.heap.size 0 (hc I)).cell? ⟨w.heap.size + 1, 0, none⟩ = some (.int .i64 p0) := (Joins.cell_of_block HP2.out 0).trans rfl
  have c1 : ((w2.alloc (.cells (hc zero32).toArray 36)).setCells w2.heap.size 0 (hc I)).cell? ⟨w.heap.size + 1, 1, none⟩ = some (.int .i64 k0) := (Joins.cell_of_block HP2.out 1).trans rfl
  have LI := Lib.hid hlI
  have BI := Lib.hid hbI
  have N7 : Hid (w.heap.size + 1 < w2.heap.size) := by
    show _ < _
    have := (Array.getElem?_eq_some_iff.1 HP1.out).1
    have := hb2.size
    omega
  clear hb2 b3 b23 HA1 HP1 HS1 HR1 B1 hbI
  go_wp2_with fail
  clear ct c0 c1 hlI
  generalize (w2.alloc (.cells (hc zero32).toArray 36)).setCells w2.heap.size 0 (hc I) = W3 at *
  generalize w2.heap.size = b7 at *
  obtain ⟨Z, hZ⟩ : ∃ Z, chk 17 p0 k0 I Ss = Z := ⟨_, rfl⟩
  rw [hZ] at HC
  have HZ0 := Lib.hid hZ
  clear hZ
  go_loopw [8, 9, 10] (fun pv cv uv wr => ∃ (f p c u : Nat) (H : List Int), pv = .int .i64 p ∧ cv = .int .i64 c ∧ uv = .int .i64 u ∧ p < c ∧ c ≤ 65536 ∧ u ≤ Ss.length ∧ Hid (chk f p c H (Ss.drop u) = Z ∧ sd f p c = Ss.length - u ∧ c ≤ 2 ^ f) ∧ Hid (CSt w wr G (.cells #[.int .i64 p0, .int .i64 k0, .slice q Ss.length k] 32 (0, 0)) b7 H q Ss)) (fun _ cv _ _ => (intOf cv).toNat)
  case atStart => exact ⟨17, p0, k0, 0, I, rfl, rfl, rfl, hp0, hk0, by omega, Lib.hid ⟨by rw [List.drop_zero]; exact HZ0.out, by have := HL4.out; omega, by omega⟩, Lib.hid ⟨B2.out, HA2.out, HP2.out, HI.out, LI.out, BI.out, HS2.out⟩⟩
  case round =>
    obtain ⟨f, p, c, u, H, rfl, rfl, rfl, hpc, hc5, hu, hR, hS⟩ := hrel
    have hlb7 := (Array.getElem?_eq_some_iff.1 hS.out.hH).1
    by_cases hg : 1 < c
    · cases f with
      | zero => exfalso; have := hR.out.2.2; simp at this; omega
      | succ f =>
        have hi := bes_or hpc
        have c2 : wr.cell? ⟨w.heap.size + 1, 2, none⟩ = some (.slice q Ss.length k) := (Joins.cell_of_block hS.out.hP 2).trans rfl
        have ch := hS.out.hH.row hS.out.lH
        have lH := hS.out.lH
        have lHc := hc_len H
        obtain ⟨e1, e2, e3⟩ := hR.out
        unfold chk at e1
        unfold sd at e2
        rw [if_neg (by omega)] at e1 e2
        rw [Nat.pow_succ] at e3
        by_cases hb : bes p < c
        · rw [if_pos hb] at e1 e2
          have hul : u < Ss.length := by omega
          obtain ⟨bs, off, rfl, hcs⟩ : ∃ b off, q = some ⟨b, off, none⟩ ∧ ∀ i, i < Ss.length → rowOf wr b (off + i * 32) 32 = hc (Ss.getD i []) := by
            rcases hS.out.hS with h | h
            · rw [h] at hul; simp at hul
            · exact h
          have cx := hcs u hul
          have hx0 := HSS.out u hul
          have hgd : (Ss.drop u).getD 0 [] = Ss.getD u [] := by simp [List.getD]
          rw [hgd, List.drop_drop] at e1
          obtain ⟨x, hxe⟩ : ∃ x, Ss.getD u [] = x := ⟨_, rfl⟩
          rw [hxe] at cx hx0 e1
          clear hxe hcs hgd
          have lx := hc_len x
          have lx32 := hx0.1
          have i0 : (0 : Int) ≤ (u : Int) := by omega
          have i1 : (u : Int) < (Ss.length : Int) := by omega
          have hor := hi.1 hb
          rcases Nat.mod_two_eq_zero_or_one p with hpm | hpm
          · have hp2 : (p : Int) % 2 = 0 := by omega
            have hlt2 : (p : Int) + 1 < c := by omega
            have HN : Hid (chk f (p / 2) ((c + 1) / 2) (pr H x) (Ss.drop (u + 1)) = Z ∧ sd f (p / 2) ((c + 1) / 2) = Ss.length - (u + 1) ∧ (c + 1) / 2 ≤ 2 ^ f) := ⟨by rw [if_neg (by omega)] at e1; exact e1, by omega, by omega⟩
            clear hor hpm hi hb e1 e2 e3 hR
            go_wp2_with fail
            go_region_with (first
              | (go_at_call 40; refine (refPair_any hS.out.lH hx0.1 hS.out.bH hx0.2).mono ?_; rintro e w3 ⟨rfl, hb3⟩; (have H3 := (show HashAt wr.drew b7 H from hS.out.hH).on hb3); (have ct := H3.there hS.out.lH); rw [show sha (frm (sn pairS) [H, x]) = pr H x from rfl]; (have hYl : (pr H x).length = 32 := sha_len _); (have lY := hc_len (pr H x)); (have HNS := Lib.hid (hS.out.next H3 HSl.out hb3 N7.out hYl (sha_bytes _) NB.out))))
            all_goals
              go_wp2_with fail
              go_roundw
              case rel => exact ⟨f, p / 2, (c + 1) / 2, u + 1, _, by go_num, by first | (go_num; omega) | (congr 1; omega), by go_num, by omega, by omega, by omega, HN, HNS⟩
              case measure => simp [intOf]; omega
          · have hp2 : (p : Int) % 2 = 1 := by omega
            have HN : Hid (chk f (p / 2) ((c + 1) / 2) (pr x H) (Ss.drop (u + 1)) = Z ∧ sd f (p / 2) ((c + 1) / 2) = Ss.length - (u + 1) ∧ (c + 1) / 2 ≤ 2 ^ f) := ⟨by rw [if_pos hpm] at e1; exact e1, by omega, by omega⟩
            clear hor hpm hi hb e1 e2 e3 hR
            go_wp2_with fail
            go_region_with (first
              | (go_at_call 40; refine (refPair_any hx0.1 hS.out.lH hx0.2 hS.out.bH).mono ?_; rintro e w3 ⟨rfl, hb3⟩; (have H3 := (show HashAt wr.drew b7 H from hS.out.hH).on hb3); (have ct := H3.there hS.out.lH); rw [show sha (frm (sn pairS) [x, H]) = pr x H from rfl]; (have hYl : (pr x H).length = 32 := sha_len _); (have lY := hc_len (pr x H)); (have HNS := Lib.hid (hS.out.next H3 HSl.out hb3 N7.out hYl (sha_bytes _) NB.out))))
            all_goals
              go_wp2_with fail
              go_roundw
              case rel => exact ⟨f, p / 2, (c + 1) / 2, u + 1, _, by go_num, by first | (go_num; omega) | (congr 1; omega), by go_num, by omega, by omega, by omega, HN, HNS⟩
              case measure => simp [intOf]; omega
        · rw [if_neg hb] at e1 e2
          have hor : ¬ (p % 2 = 1 ∨ p + 1 < c) := fun h => hb (hi.2 h)
          have hp2 : (p : Int) % 2 = 0 := by omega
          have hlt2 : ¬ (p : Int) + 1 < c := by omega
          have HN : Hid (chk f (p / 2) ((c + 1) / 2) H (Ss.drop u) = Z ∧ sd f (p / 2) ((c + 1) / 2) = Ss.length - u ∧ (c + 1) / 2 ≤ 2 ^ f) := ⟨e1, by omega, by omega⟩
          clear hor hi hb e1 e2 e3 hR
          go_wp2_with fail
          go_roundw
          case rel => exact ⟨f, p / 2, (c + 1) / 2, u, H, by go_num, by first | (go_num; omega) | (congr 1; omega), by go_num, by omega, by omega, by omega, HN, hS⟩
          case measure => simp [intOf]; omega
    · have hHZ : H = Z := by
        have e1 := hR.out.1
        cases f with
        | zero => exact e1
        | succ f => unfold chk at e1; rw [if_pos (by omega)] at e1; exact e1
      subst hHZ
      clear hR
      have hlY : (hList (k0 : Int) H).length = 32 := sha_len _
      have KT := Lib.hid (fun W : World => refTop_any (w := W) (n := (k0 : Int)) (F := H) (by omega) (by omega) hS.out.lH hS.out.bH)
      obtain ⟨Y, hY⟩ : ∃ Y, hList (k0 : Int) H = Y := ⟨_, rfl⟩
      rw [hY] at hlY KT HC
      clear hY
      have lY := hc_len Y
      have lG := hc_len G
      have hG32 := HG.out
      have c1 : wr.cell? ⟨w.heap.size + 1, 1, none⟩ = some (.int .i64 k0) := (Joins.cell_of_block hS.out.hP 1).trans rfl
      have ch := hS.out.hH.row hS.out.lH
      have lH := hS.out.lH
      have lHc := hc_len H
      have cg := hS.out.hA.row HG.out
      by_cases hyg : Y = G
      · have HC2 : Hid (ckR (p0 : Int) (k0 : Int) Ss xs G = 0) := by show _ = _; rw [HC.out, if_pos hyg]
        have dg : (Y == G) = true := by rw [hyg]; simp
        clear hyg
        go_wp2_with fail
        go_region_with (first
          | (go_at_call 34; refine (KT.out _).mono ?_; rintro e w3 ⟨rfl, hb3⟩; (have cg3 := ((show HashAt wr.drew w.heap.size G from hS.out.hA).on hb3).row HG.out); (have BE := Lib.hid (hS.out.below.drew.trans (hb3.mono hS.out.below.size)))))
        all_goals
          go_wp2_with fail
          go_ret
          exact ⟨by rw [HC2.out]; rfl, BE.out⟩
      · have HC2 : Hid (ckR (p0 : Int) (k0 : Int) Ss xs G = 22) := by show _ = _; rw [HC.out, if_neg hyg]
        have dg : (Y == G) = false := by simpa using hyg
        clear hyg
        go_wp2_with fail
        go_region_with (first
          | (go_at_call 34; refine (KT.out _).mono ?_; rintro e w3 ⟨rfl, hb3⟩; (have cg3 := ((show HashAt wr.drew w.heap.size G from hS.out.hA).on hb3).row HG.out); (have BE := Lib.hid (hS.out.below.drew.trans (hb3.mono hS.out.below.size)))))
        all_goals
          go_wp2_with fail
          go_ret
          exact ⟨by rw [HC2.out]; rfl, BE.out⟩
end Go.Proofs.YtebeacejlkiglaaDoor
namespace Go.Proofs.YtebeacejlkiglaaDoor
set_option maxRecDepth 100000
open Go.RowKit

/-- The cells of a row of hashes. -/
def hcs (Ss : List (List Int)) : List Value := Ss.flatMap hc
theorem hcs_append (A B : List (List Int)) : hcs (A ++ B) = hcs A ++ hcs B := by simp [hcs]
theorem hcs_one (F : List Int) : hcs [F] = hc F := by simp [hcs]
/-- Hashes: 32 bytes each. -/
def HsOk (Ss : List (List Int)) : Prop := ∀ F ∈ Ss, F.length = 32 ∧ Bytes F
theorem HsOk.get {Ss : List (List Int)} (h : HsOk Ss) (i : Nat) (hi : i < Ss.length) : (Ss.getD i []).length = 32 ∧ Bytes (Ss.getD i []) := by
  have e : Ss.getD i [] = Ss[i] := by simp [List.getD, hi]
  rw [e]
  exact h _ (List.getElem_mem hi)
theorem HsOk.nil : HsOk [] := fun _ h => by cases h
theorem HsOk.append {A B : List (List Int)} (hA : HsOk A) (hB : HsOk B) : HsOk (A ++ B) := fun F h => (List.mem_append.1 h).elim (hA F) (hB F)
theorem HsOk.one {F : List Int} (h : F.length = 32) (b : Bytes F) : HsOk [F] := fun G hG => by
  obtain rfl := List.mem_singleton.1 hG
  exact ⟨h, b⟩
theorem hcs_len : ∀ {Ss : List (List Int)}, HsOk Ss → (hcs Ss).length = Ss.length * 32
  | [], _ => rfl
  | F :: Ss, h => by
    have h1 := hcs_len (Ss := Ss) (fun G hG => h G (List.mem_cons_of_mem _ hG))
    have h2 := (h F (List.mem_cons_self ..)).1
    have e : hcs (F :: Ss) = hc F ++ hcs Ss := rfl
    rw [e, List.length_append, h1, hc_len, h2, List.length_cons]
    omega
theorem hcs_mid (tail : List Value) : ∀ {Ss : List (List Int)}, HsOk Ss → ∀ i, i < Ss.length → ((hcs Ss ++ tail).drop (i * 32)).take 32 = hc (Ss.getD i [])
  | [], _, i, hi => by simp at hi
  | F :: Ss, h, i, hi => by
    have h2 := (h F (List.mem_cons_self ..)).1
    have e : hcs (F :: Ss) ++ tail = hc F ++ (hcs Ss ++ tail) := by rw [← List.append_assoc]; rfl
    have hl : (hc F).length = 32 := by rw [hc_len, h2]
    rw [e]
    cases i with
    | zero => rw [Nat.zero_mul, List.drop_zero]; exact List.take_left' hl
    | succ i =>
      rw [List.drop_append, hl, List.drop_eq_nil_of_le (by omega), List.nil_append, show (i + 1) * 32 - 32 = i * 32 by omega]
      exact hcs_mid tail (fun G hG => h G (List.mem_cons_of_mem _ hG)) i (by simpa using hi)
theorem hcs_cell : ∀ {Ss : List (List Int)}, HsOk Ss → ∀ {j : Nat} {u : Value}, (hcs Ss)[j]? = some u → j / 32 < Ss.length ∧ (hc (Ss.getD (j / 32) []))[j % 32]? = some u
  | [], _, j, u, hj => by simp [hcs] at hj
  | F :: Ss, h, j, u, hj => by
    have h2 := (h F (List.mem_cons_self ..)).1
    have hl : (hc F).length = 32 := by rw [hc_len, h2]
    have e : hcs (F :: Ss) = hc F ++ hcs Ss := rfl
    rw [e] at hj
    by_cases hlt : j < 32
    · rw [List.getElem?_append_left (by omega)] at hj
      rw [show j / 32 = 0 by omega, show j % 32 = j by omega]
      exact ⟨by simp, hj⟩
    · rw [List.getElem?_append_right (by omega), hl] at hj
      obtain ⟨h3, h4⟩ := hcs_cell (fun G hG => h G (List.mem_cons_of_mem _ hG)) hj
      have e1 : j / 32 = (j - 32) / 32 + 1 := by omega
      have e2 : j % 32 = (j - 32) % 32 := by omega
      rw [e1, e2]
      exact ⟨by simp; omega, h4⟩
theorem hcs_cells_one (Ss : List (List Int)) : ∀ u ∈ hcs Ss, u.oneCell' = true := by
  intro u hu
  obtain ⟨F, _, hF⟩ := List.mem_flatMap.1 hu
  exact (Array.all_eq_true_iff_forall_mem.1 (hc_one F)) u (by simpa using hF)

/-! ### A row that reads as hashes -/
theorem RdHs.cell {w : World} {b off : Nat} {Ss : List (List Int)} (hx : ∀ i, i < Ss.length → rowOf w b (off + i * 32) 32 = hc (Ss.getD i [])) (ok : HsOk Ss) {j : Nat} {u : Value} (hj : (hcs Ss)[j]? = some u) : w.cell? ⟨b, off + j, none⟩ = some u := by
  obtain ⟨h1, h2⟩ := hcs_cell ok hj
  have := range_rowOf w b (off + j / 32 * 32) 32 (j % 32) u (by rw [hx _ h1]; exact h2)
  rw [show off + j / 32 * 32 + j % 32 = off + j by omega] at this
  exact this
theorem RdHs.src {P : Program} {w : World} {tx e' : TypeId} {q : Option Addr} {c : Nat} {Ss : List (List Int)} (h : RdHs w q Ss) (ok : HsOk Ss) (hk : P.underlying tx = some (.slice e')) : Src P 32 tx (.slice q Ss.length c) Ss.length (hcs Ss) w := by
  rcases h with rfl | ⟨b, off, rfl, hx⟩
  · cases q with
    | none => exact Src.ofNil w hk c
    | some a => exact Src.ofSlice w hk a 0 c [] (by simp) (fun j u hu => by simp at hu) (by simp)
  · refine Src.ofSlice w hk _ _ _ _ (hcs_len ok) (fun j u hu => ?_) (hcs_cells_one Ss)
    rw [addr_add]
    exact RdHs.cell hx ok hu
theorem rdHs_block {w : World} {b : Nat} {T : TypeId} {fr : Nat × Nat} {tail : List Value} {Ss : List (List Int)} (h : w.heap[b]? = some (.cells (hcs Ss ++ tail).toArray T fr)) (ok : HsOk Ss) : RdHs w (some ⟨b, 0, none⟩) Ss := by
  refine .inr ⟨b, 0, rfl, fun i hi => ?_⟩
  rw [rowOf_block h, Nat.zero_add, ← hcs_mid tail ok i hi]
  simp [List.take_drop]
theorem RdHs.nil (w : World) (q : Option Addr) : RdHs w q [] := .inl rfl

/-- A row of hashes that the call lays. -/
structure HsS (w wr : World) (v : Value) (Ss : List (List Int)) : Prop where
  own : wr.ownsRow 0 36 32 v Ss.length (hcs Ss)
  ok : HsOk Ss
  fresh : ∀ g, v.ownBlock = some g → w.heap.size ≤ g
  below : Below w.heap.size w wr
theorem HsS.start (w : World) : HsS w w (.slice none 0 0) [] := ⟨World.ownsRow_nil w 0 _ 32, HsOk.nil, by simp [Value.ownBlock], Below.refl _ _⟩
theorem HsS.on {w wr w1 : World} {v : Value} {Ss : List (List Int)} (h : HsS w wr v Ss) (hb : Below wr.heap.size wr w1) : HsS w w1 v Ss :=
  ⟨own_on h.own hb, h.ok, h.fresh, h.below.trans (hb.mono h.below.size)⟩
theorem HsS.grow {w wr w2 : World} {v v' : Value} {Ss Ts : List (List Int)} {m : Nat} (h : HsS w wr v Ss) (ok : HsOk Ts) (hm : Ts.length = m) (own : w2.ownsRow 0 36 32 v' (Ss.length + m) (hcs Ss ++ hcs Ts)) (grow : wr.grownBy w2 v.ownBlock) (fr : v'.ownBlock = v.ownBlock ∨ v'.ownBlock = some wr.heap.size) : HsS w w2 v' (Ss ++ Ts) := by
  subst hm
  refine ⟨by rw [List.length_append, hcs_append]; exact own, h.ok.append ok, fun g hg => ?_, h.below.grown grow h.below.size (fun k hk => h.fresh k hk)⟩
  rcases fr with e | e
  · rw [e] at hg; exact h.fresh g hg
  · rw [e] at hg; have := h.below.size; simp at hg; omega
theorem HsS.rd {w wr : World} {q : Option Addr} {n c : Nat} {Ss : List (List Int)} (h : HsS w wr (.slice q n c) Ss) : n = Ss.length ∧ RdHs wr q Ss ∧ n ≤ c ∧ c ≤ maxLen := by
  rcases h.own.2 with ⟨e, h0⟩ | ⟨g, cap, cur, e, _, hg, hnc, hcm, hcs', htake⟩
  · simp only [Value.slice.injEq] at e
    obtain ⟨rfl, rfl, rfl⟩ := e
    have h1 : Ss = [] := List.eq_nil_of_length_eq_zero h0
    subst h1
    exact ⟨rfl, .inl rfl, Nat.le_refl _, by unfold maxLen; omega⟩
  · simp only [Value.slice.injEq] at e
    obtain ⟨rfl, rfl, rfl⟩ := e
    refine ⟨rfl, ?_, hnc, hcm⟩
    have hc2 : cur = (hcs Ss ++ cur.toList.drop (Ss.length * 32)).toArray := by
      apply Array.ext'
      show cur.toList = hcs Ss ++ cur.toList.drop (Ss.length * 32)
      rw [← htake, List.take_append_drop]
    rw [hc2] at hg
    exact rdHs_block hg h.ok
theorem one_hs {w : World} {F : List Int} (h : F.length = 32) (b : Bytes F) : RdHs (w.alloc (.cells (hc F).toArray 36)) (some ⟨w.heap.size, 0, none⟩) [F] := by
  refine rdHs_block (tail := []) (T := 36) (fr := (0, 0)) ?_ (HsOk.one h b)
  rw [List.append_nil, hcs_one]
  exact heap_alloc_new w _
theorem Tryd.infoHs : (Tryd.prog.info? 36).map (fun i => (i.zero, i.size, i.bytes)) = some (some (.agg (hc zero32).toArray), 32, 32) := by kernel_rfl
theorem zero_cells : (Value.agg (hc zero32).toArray).cells.size = 32 := by rfl

set_option maxHeartbeats 4000000 in
theorem Own_any {w : World} {P C : Int} {q : Option Addr} {k : Nat} {Ss : List (List Int)} (hs : RdHs w q Ss) (ok : HsOk Ss) (hn : Ss.length * 32 ≤ 140737488355328) :
    Calls Tryd.prog 17 #[.agg #[.int .i64 P, .int .i64 C, .slice q Ss.length k]] w fun e w' => ∃ q' k', e = .returned (.agg #[.int .i64 P, .int .i64 C, .slice q' Ss.length k']) ∧ HsS w w' (.slice q' Ss.length k') Ss := by
  obtain ⟨i0, hi, hz0, hz1, hz2⟩ := info_parts Tryd.infoHs
  replace hi := Lib.hid hi
  replace hz0 := Lib.hid hz0
  replace hz1 := Lib.hid hz1
  replace hz2 := Lib.hid hz2
  have b1 : Below w.heap.size w (w.alloc (.cells #[.int .i64 P, .int .i64 C, .slice q Ss.length k] 32)) := (Below.refl _ _).alloc (Nat.le_refl _) _
  have b2 : Below (w.alloc (.cells #[.int .i64 P, .int .i64 C, .slice q Ss.length k] 32)).heap.size (w.alloc (.cells #[.int .i64 P, .int .i64 C, .slice q Ss.length k] 32)) ((w.alloc (.cells #[.int .i64 P, .int .i64 C, .slice q Ss.length k] 32)).alloc (.cells #[.int .i64 0, .int .i64 0, .slice none 0 0] 28)) := (Below.refl _ _).alloc (Nat.le_refl _) _
  have B0 := Lib.hid (b1.trans (b2.mono b1.size))
  have HS32 : Hid (∀ i, i < Ss.length → (Ss.getD i []).length = 32) := fun i hi => (ok.get i hi).1
  have HS0 : Hid (RdHs ((w.alloc (.cells #[.int .i64 P, .int .i64 C, .slice q Ss.length k] 32)).alloc (.cells #[.int .i64 0, .int .i64 0, .slice none 0 0] 28)) q Ss) := hs.on HS32.out B0.out
  have HOK := Lib.hid ok
  have hp := heap_alloc_new w (.cells #[.int .i64 P, .int .i64 C, .slice q Ss.length k] 32)
  have hp2 := heap_alloc_new (w.alloc (.cells #[.int .i64 P, .int .i64 C, .slice q Ss.length k] 32)) (.cells #[.int .i64 0, .int .i64 0, .slice none 0 0] 28)
  rw [show (w.alloc (.cells #[.int .i64 P, .int .i64 C, .slice q Ss.length k] 32)).heap.size = w.heap.size + 1 by simp] at hp2
  have HB0 : Hid (((w.alloc (.cells #[.int .i64 P, .int .i64 C, .slice q Ss.length k] 32)).alloc (.cells #[.int .i64 0, .int .i64 0, .slice none 0 0] 28)).heap[w.heap.size]? = some (.cells #[.int .i64 P, .int .i64 C, .slice q Ss.length k] 32 (0, 0)) ∧ ((w.alloc (.cells #[.int .i64 P, .int .i64 C, .slice q Ss.length k] 32)).alloc (.cells #[.int .i64 0, .int .i64 0, .slice none 0 0] 28)).heap[w.heap.size + 1]? = some (.cells #[.int .i64 0, .int .i64 0, .slice none 0 0] 28 (0, 0))) := Lib.hid ⟨blk_onB2 hp b2, hp2⟩
  clear hp hp2 b1 b2 hs ok
  go_enter Tryd.func17, Tryd.ntmps17
  go_wp2_with fail
  generalize (w.alloc (.cells #[.int .i64 P, .int .i64 C, .slice q Ss.length k] 32)).alloc (.cells #[.int .i64 0, .int .i64 0, .slice none 0 0] 28) = W0 at *
  refine wp_region_held_drew (S := fun W => W.heap[w.heap.size]? = some (.cells #[.int .i64 P, .int .i64 C, .slice q Ss.length k] 32 (0, 0))) (by kernel_rfl) (HB0.out.1) (fun h0 => ?_)
  refine wpAnyH_take (i := 0) (v := ?_) (by rw [List.getElem?_toArray]; rfl) (by kernel_rfl) (by kernel_rfl) (by kernel_rfl) (by exact fun _ _ _ h => h) (Or.inl ⟨by rfl, ?_⟩) h0 ?_
  rotate_left
  · intro W hW
    go_simp
    all_goals with_reducible rfl
  try simp only [Act.put, List.setIfInBounds_toArray, List.set_cons_zero, List.set_cons_succ]
  refine wpAnyH_take (i := 1) (v := ?_) (by rw [List.getElem?_toArray]; rfl) (by kernel_rfl) (by kernel_rfl) (by kernel_rfl) (by exact fun _ _ _ h => h) (Or.inl ⟨by rfl, ?_⟩) h0 ?_
  rotate_left
  · intro W hW
    have cc := (Joins.cell_of_block hW 0).trans (rfl : _ = some _)
    go_simp
    all_goals with_reducible rfl
  try simp only [Act.put, List.setIfInBounds_toArray, List.set_cons_zero, List.set_cons_succ]
  refine wpAnyH_take (i := 2) (v := ?_) (by rw [List.getElem?_toArray]; rfl) (by kernel_rfl) (by kernel_rfl) (by kernel_rfl) (by exact fun _ _ _ h => h) (Or.inl ⟨by rfl, ?_⟩) h0 ?_
  rotate_left
  · intro W hW
    go_simp
    all_goals with_reducible rfl
  try simp only [Act.put, List.setIfInBounds_toArray, List.set_cons_zero, List.set_cons_succ]
  refine wpAnyH_take (i := 3) (v := ?_) (by rw [List.getElem?_toArray]; rfl) (by kernel_rfl) (by kernel_rfl) (by kernel_rfl) (by exact fun _ _ _ h => h) (Or.inl ⟨by rfl, ?_⟩) h0 ?_
  rotate_left
  · intro W hW
    have cc := (Joins.cell_of_block hW 1).trans (rfl : _ = some _)
    go_simp
    all_goals with_reducible rfl
  try simp only [Act.put, List.setIfInBounds_toArray, List.set_cons_zero, List.set_cons_succ]
  refine wpAnyH_take (i := 5) (v := ?_) (by rw [List.getElem?_toArray]; rfl) (by kernel_rfl) (by kernel_rfl) (by kernel_rfl) (by exact fun _ _ _ h => h) (Or.inl ⟨by rfl, ?_⟩) h0 ?_
  rotate_left
  · intro W hW
    go_simp
    all_goals with_reducible rfl
  try simp only [Act.put, List.setIfInBounds_toArray, List.set_cons_zero, List.set_cons_succ]
  refine wpAnyH_take (i := 6) (v := ?_) (by rw [List.getElem?_toArray]; rfl) (by kernel_rfl) (by kernel_rfl) (by kernel_rfl) (by exact fun _ _ _ h => h) (Or.inl ⟨by rfl, ?_⟩) h0 ?_
  rotate_left
  · intro W hW
    have cc := (Joins.cell_of_block hW 2).trans (rfl : _ = some _)
    go_simp
    all_goals with_reducible rfl
  try simp only [Act.put, List.setIfInBounds_toArray, List.set_cons_zero, List.set_cons_succ]
  refine wpAnyH_ready (rs := [4]) (by kernel_rfl) (by simp) ?_
  refine AllReadyH.cons (by rw [List.getElem?_toArray]; rfl) (fun K hK => ?_) AllReadyH.nil
  rw [if_pos (by rfl)]
  have b3 : Below W0.heap.size W0 (W0.alloc (.cells #[] 36)) := (Below.refl _ _).alloc (Nat.le_refl _) _
  have B3 := Lib.hid (B0.out.trans (b3.mono B0.out.size))
  have RS3 : Hid (RdHs (W0.alloc (.cells #[] 36)) q Ss) := HS0.out.on HS32.out b3
  have S3 := Lib.hid (show (W0.alloc (.cells #[] 36)).heap[w.heap.size]? = some (.cells #[.int .i64 P, .int .i64 C, .slice q Ss.length k] 32 (0, 0)) ∧ (W0.alloc (.cells #[] 36)).heap[w.heap.size + 1]? = some (.cells #[.int .i64 0, .int .i64 0, .slice none 0 0] 28 (0, 0)) from ⟨blk_onB2 HB0.out.1 b3, blk_onB2 HB0.out.2 b3⟩)
  have O3 := Lib.hid (own_empty W0 36 32)
  clear b3
  go_wp2_with fail
  refine hK.out _ _ (S3.out.1) (fun h4 => ?_)
  clear hK K
  try simp only [Act.put, List.setIfInBounds_toArray, List.set_cons_zero, List.set_cons_succ]
  generalize hW3 : W0.alloc (.cells #[] 36) = w3 at *
  clear hW3
  refine wpAnyH_ready (rs := [7]) (by kernel_rfl) (by simp) ?_
  refine AllReadyH.cons (by rw [List.getElem?_toArray]; rfl) (fun K hK => ?_) AllReadyH.nil
  rw [if_pos (by rfl)]
  refine wp_append_row _ _ rfl Tryd.underlying26 hi.out hz0.out hz1.out hz2.out zero_cells (show w3.drew.ownsRow 0 _ 32 (.slice (some ⟨W0.heap.size, 0, none⟩) 0 0) 0 [] from O3.out) ((show RdHs w3.drew q Ss from RS3.out).src (P := Tryd.prog) HOK.out Tryd.underlying26) ?b1 ?b2 ?_
  case b1 => unfold maxLen; omega
  case b2 => omega
  intro q6 k6 w6 own6 grow6' fr6'
  have grow6 : w3.drew.grownBy w6 (Value.slice (some ⟨W0.heap.size, 0, none⟩) 0 0).ownBlock := grow6'
  have fr6 : (Value.slice q6 (0 + Ss.length) k6).ownBlock = (Value.slice (some ⟨W0.heap.size, 0, none⟩) 0 0).ownBlock ∨ (Value.slice q6 (0 + Ss.length) k6).ownBlock = some w3.heap.size := fr6'
  have hsz3 : w.heap.size ≤ W0.heap.size := B0.out.size
  have G6 : Below w.heap.size w w6 := B3.out.drew.grown grow6 B3.out.size (fun g hg => by simp [Value.ownBlock] at hg; omega)
  have hs0 : w.heap.size + 1 < W0.heap.size := (Array.getElem?_eq_some_iff.1 HB0.out.2).1
  have K6 : Chg w3.drew w6 [W0.heap.size] := Chg.grown grow6 (fun k hk => by simp [Value.ownBlock] at hk; simp [hk])
  have S6 : Hid (w6.heap[w.heap.size]? = some (.cells #[.int .i64 P, .int .i64 C, .slice q Ss.length k] 32 (0, 0)) ∧ w6.heap[w.heap.size + 1]? = some (.cells #[.int .i64 0, .int .i64 0, .slice none 0 0] 28 (0, 0))) := Lib.hid ⟨by rw [K6.block _ (Array.getElem?_eq_some_iff.1 S3.out.1).1 (by simp; omega)]; exact S3.out.1, by rw [K6.block _ (Array.getElem?_eq_some_iff.1 S3.out.2).1 (by simp; omega)]; exact S3.out.2⟩
  have HN : Hid (HsS w w6 (.slice q6 Ss.length k6) Ss) := by
    refine ⟨?_, HOK.out, fun g hg => ?_, G6⟩
    · have := own6; simp only [Nat.zero_add, List.nil_append] at this; exact this
    · rcases fr6 with e | e
      · simp only [Nat.zero_add] at e
        rw [e] at hg; simp [Value.ownBlock] at hg; omega
      · simp only [Nat.zero_add] at e
        rw [e] at hg; simp at hg; have := B3.out.size; omega
  simp only [Nat.zero_add]
  clear own6 grow6 fr6 grow6' fr6' G6 K6
  refine hK.out _ _ (S6.out.1) (fun h7 => ?_)
  clear hK K
  try simp only [Act.put, List.setIfInBounds_toArray, List.set_cons_zero, List.set_cons_succ]
  refine wpAnyH_take (i := 8) (v := ?_) (by rw [List.getElem?_toArray]; rfl) (by kernel_rfl) (by kernel_rfl) (by kernel_rfl) (by exact fun _ _ _ h => h) (Or.inl ⟨by rfl, ?_⟩) h7 ?_
  rotate_left
  · intro W hW
    go_simp
    all_goals with_reducible rfl
  try simp only [Act.put, List.setIfInBounds_toArray, List.set_cons_zero, List.set_cons_succ]
  refine wpAnyH_ready (rs := [9]) (by kernel_rfl) (by simp) ?_
  refine AllReadyH.cons (by rw [List.getElem?_toArray]; rfl) (fun K hK => ?_) AllReadyH.nil
  rw [if_pos (by rfl)]
  have hcz : ∀ j, w6.frozen? ⟨w.heap.size + 1, j, none⟩ = false := fun j => Joins.unfrozen_of_block S6.out.2 j
  have z0 := (Joins.cell_of_block S6.out.2 0).trans (rfl : _ = some _)
  have z1 := (Joins.cell_of_block S6.out.2 1).trans (rfl : _ = some _)
  have z2 := (Joins.cell_of_block S6.out.2 2).trans (rfl : _ = some _)
  have f0 := hcz 0
  have f1 := hcz 1
  have f2 := hcz 2
  clear hcz
  go_wp2_with fail
  refine hK.out _ _ (by rw [Below.heap_setCell _ _ _ _ (by simp), Below.heap_setCell _ _ _ _ (by simp), Below.heap_setCell _ _ _ _ (by simp)]; exact S6.out.1) (fun h9 => ?_)
  clear hK K
  try simp only [Act.put, List.setIfInBounds_toArray, List.set_cons_zero, List.set_cons_succ]
  refine wpAnyH_done (by kernel_rfl) ?_ _
  have hne : (Value.slice q6 Ss.length k6).ownBlock ≠ some (w.heap.size + 1) := own_ne HN.out.own S6.out.2 (by decide)
  have HF : Hid (HsS w (((w6.setCell ⟨w.heap.size + 1, 0, none⟩ (.int .i64 P)).setCell ⟨w.heap.size + 1, 1, none⟩ (.int .i64 C)).setCell ⟨w.heap.size + 1, 2, none⟩ (.slice q6 Ss.length k6)) (.slice q6 Ss.length k6) Ss) := by
    refine ⟨own_keep HN.out.own (fun j hj => ?_), HN.out.ok, HN.out.fresh, ((HN.out.below.setCell (p := ⟨_, 0, none⟩) (by simp) _).setCell (p := ⟨_, 1, none⟩) (by simp) _).setCell (p := ⟨_, 2, none⟩) (by simp) _⟩
    have hj1 : j ≠ w.heap.size + 1 := fun e => hne (e ▸ hj)
    rw [Below.heap_setCell _ _ _ _ hj1, Below.heap_setCell _ _ _ _ hj1, Below.heap_setCell _ _ _ _ hj1]
  have hb9 : (((w6.setCell ⟨w.heap.size + 1, 0, none⟩ (.int .i64 P)).setCell ⟨w.heap.size + 1, 1, none⟩ (.int .i64 C)).setCell ⟨w.heap.size + 1, 2, none⟩ (.slice q6 Ss.length k6)).heap[w.heap.size + 1]? = some (.cells #[.int .i64 P, .int .i64 C, .slice q6 Ss.length k6] 28 (0, 0)) :=
    Joins.block_setCell (Joins.block_setCell (Joins.block_setCell S6.out.2 _) _) _
  have z0 := (Joins.cell_of_block hb9 0).trans (rfl : _ = some _)
  have z1 := (Joins.cell_of_block hb9 1).trans (rfl : _ = some _)
  have z2 := (Joins.cell_of_block hb9 2).trans (rfl : _ = some _)
  clear h9 hne h0 h4 h7 hb9
  go_wp2_with fail
  refine bodyPost_ret (v := .agg #[.int .i64 P, .int .i64 C, .slice q6 Ss.length k6]) (by simp [results, Tryd.results17, go_sem, z0, z1, z2]) rfl ⟨q6, k6, rfl, HF.out⟩

set_option maxHeartbeats 4000000 in
theorem Ref_any {w : World} {P C : Int} {q : Option Addr} {k : Nat} {Ss : List (List Int)} (hs : RdHs w q Ss) (ok : HsOk Ss) (hn : Ss.length * 32 ≤ 140737488355328) :
    Calls Tryd.prog 28 #[.agg #[.int .i64 P, .int .i64 C, .slice q Ss.length k]] w fun e w' => ∃ q' k', e = .returned (.agg #[.int .i64 P, .int .i64 C, .slice q' Ss.length k']) ∧ HsS w w' (.slice q' Ss.length k') Ss := by
  obtain ⟨i0, hi, hz0, hz1, hz2⟩ := info_parts Tryd.infoHs
  replace hi := Lib.hid hi
  replace hz0 := Lib.hid hz0
  replace hz1 := Lib.hid hz1
  replace hz2 := Lib.hid hz2
  have b1 : Below w.heap.size w (w.alloc (.cells #[.int .i64 P, .int .i64 C, .slice q Ss.length k] 28)) := (Below.refl _ _).alloc (Nat.le_refl _) _
  have b2 : Below (w.alloc (.cells #[.int .i64 P, .int .i64 C, .slice q Ss.length k] 28)).heap.size (w.alloc (.cells #[.int .i64 P, .int .i64 C, .slice q Ss.length k] 28)) ((w.alloc (.cells #[.int .i64 P, .int .i64 C, .slice q Ss.length k] 28)).alloc (.cells #[.int .i64 0, .int .i64 0, .slice none 0 0] 32)) := (Below.refl _ _).alloc (Nat.le_refl _) _
  have B0 := Lib.hid (b1.trans (b2.mono b1.size))
  have HS32 : Hid (∀ i, i < Ss.length → (Ss.getD i []).length = 32) := fun i hi => (ok.get i hi).1
  have HS0 : Hid (RdHs ((w.alloc (.cells #[.int .i64 P, .int .i64 C, .slice q Ss.length k] 28)).alloc (.cells #[.int .i64 0, .int .i64 0, .slice none 0 0] 32)) q Ss) := hs.on HS32.out B0.out
  have HOK := Lib.hid ok
  have hp := heap_alloc_new w (.cells #[.int .i64 P, .int .i64 C, .slice q Ss.length k] 28)
  have hp2 := heap_alloc_new (w.alloc (.cells #[.int .i64 P, .int .i64 C, .slice q Ss.length k] 28)) (.cells #[.int .i64 0, .int .i64 0, .slice none 0 0] 32)
  rw [show (w.alloc (.cells #[.int .i64 P, .int .i64 C, .slice q Ss.length k] 28)).heap.size = w.heap.size + 1 by simp] at hp2
  have HB0 : Hid (((w.alloc (.cells #[.int .i64 P, .int .i64 C, .slice q Ss.length k] 28)).alloc (.cells #[.int .i64 0, .int .i64 0, .slice none 0 0] 32)).heap[w.heap.size]? = some (.cells #[.int .i64 P, .int .i64 C, .slice q Ss.length k] 28 (0, 0)) ∧ ((w.alloc (.cells #[.int .i64 P, .int .i64 C, .slice q Ss.length k] 28)).alloc (.cells #[.int .i64 0, .int .i64 0, .slice none 0 0] 32)).heap[w.heap.size + 1]? = some (.cells #[.int .i64 0, .int .i64 0, .slice none 0 0] 32 (0, 0))) := Lib.hid ⟨blk_onB2 hp b2, hp2⟩
  clear hp hp2 b1 b2 hs ok
  go_enter Tryd.func28, Tryd.ntmps28
  go_wp2_with fail
  generalize (w.alloc (.cells #[.int .i64 P, .int .i64 C, .slice q Ss.length k] 28)).alloc (.cells #[.int .i64 0, .int .i64 0, .slice none 0 0] 32) = W0 at *
  refine wp_region_held_drew (S := fun W => W.heap[w.heap.size]? = some (.cells #[.int .i64 P, .int .i64 C, .slice q Ss.length k] 28 (0, 0))) (by kernel_rfl) (HB0.out.1) (fun h0 => ?_)
  refine wpAnyH_take (i := 0) (v := ?_) (by rw [List.getElem?_toArray]; rfl) (by kernel_rfl) (by kernel_rfl) (by kernel_rfl) (by exact fun _ _ _ h => h) (Or.inl ⟨by rfl, ?_⟩) h0 ?_
  rotate_left
  · intro W hW
    go_simp
    all_goals with_reducible rfl
  try simp only [Act.put, List.setIfInBounds_toArray, List.set_cons_zero, List.set_cons_succ]
  refine wpAnyH_take (i := 1) (v := ?_) (by rw [List.getElem?_toArray]; rfl) (by kernel_rfl) (by kernel_rfl) (by kernel_rfl) (by exact fun _ _ _ h => h) (Or.inl ⟨by rfl, ?_⟩) h0 ?_
  rotate_left
  · intro W hW
    have cc := (Joins.cell_of_block hW 0).trans (rfl : _ = some _)
    go_simp
    all_goals with_reducible rfl
  try simp only [Act.put, List.setIfInBounds_toArray, List.set_cons_zero, List.set_cons_succ]
  refine wpAnyH_take (i := 2) (v := ?_) (by rw [List.getElem?_toArray]; rfl) (by kernel_rfl) (by kernel_rfl) (by kernel_rfl) (by exact fun _ _ _ h => h) (Or.inl ⟨by rfl, ?_⟩) h0 ?_
  rotate_left
  · intro W hW
    go_simp
    all_goals with_reducible rfl
  try simp only [Act.put, List.setIfInBounds_toArray, List.set_cons_zero, List.set_cons_succ]
  refine wpAnyH_take (i := 3) (v := ?_) (by rw [List.getElem?_toArray]; rfl) (by kernel_rfl) (by kernel_rfl) (by kernel_rfl) (by exact fun _ _ _ h => h) (Or.inl ⟨by rfl, ?_⟩) h0 ?_
  rotate_left
  · intro W hW
    have cc := (Joins.cell_of_block hW 1).trans (rfl : _ = some _)
    go_simp
    all_goals with_reducible rfl
  try simp only [Act.put, List.setIfInBounds_toArray, List.set_cons_zero, List.set_cons_succ]
  refine wpAnyH_take (i := 5) (v := ?_) (by rw [List.getElem?_toArray]; rfl) (by kernel_rfl) (by kernel_rfl) (by kernel_rfl) (by exact fun _ _ _ h => h) (Or.inl ⟨by rfl, ?_⟩) h0 ?_
  rotate_left
  · intro W hW
    go_simp
    all_goals with_reducible rfl
  try simp only [Act.put, List.setIfInBounds_toArray, List.set_cons_zero, List.set_cons_succ]
  refine wpAnyH_take (i := 6) (v := ?_) (by rw [List.getElem?_toArray]; rfl) (by kernel_rfl) (by kernel_rfl) (by kernel_rfl) (by exact fun _ _ _ h => h) (Or.inl ⟨by rfl, ?_⟩) h0 ?_
  rotate_left
  · intro W hW
    have cc := (Joins.cell_of_block hW 2).trans (rfl : _ = some _)
    go_simp
    all_goals with_reducible rfl
  try simp only [Act.put, List.setIfInBounds_toArray, List.set_cons_zero, List.set_cons_succ]
  refine wpAnyH_ready (rs := [4]) (by kernel_rfl) (by simp) ?_
  refine AllReadyH.cons (by rw [List.getElem?_toArray]; rfl) (fun K hK => ?_) AllReadyH.nil
  rw [if_pos (by rfl)]
  have b3 : Below W0.heap.size W0 (W0.alloc (.cells #[] 36)) := (Below.refl _ _).alloc (Nat.le_refl _) _
  have B3 := Lib.hid (B0.out.trans (b3.mono B0.out.size))
  have RS3 : Hid (RdHs (W0.alloc (.cells #[] 36)) q Ss) := HS0.out.on HS32.out b3
  have S3 := Lib.hid (show (W0.alloc (.cells #[] 36)).heap[w.heap.size]? = some (.cells #[.int .i64 P, .int .i64 C, .slice q Ss.length k] 28 (0, 0)) ∧ (W0.alloc (.cells #[] 36)).heap[w.heap.size + 1]? = some (.cells #[.int .i64 0, .int .i64 0, .slice none 0 0] 32 (0, 0)) from ⟨blk_onB2 HB0.out.1 b3, blk_onB2 HB0.out.2 b3⟩)
  have O3 := Lib.hid (own_empty W0 36 32)
  clear b3
  go_wp2_with fail
  refine hK.out _ _ (S3.out.1) (fun h4 => ?_)
  clear hK K
  try simp only [Act.put, List.setIfInBounds_toArray, List.set_cons_zero, List.set_cons_succ]
  generalize hW3 : W0.alloc (.cells #[] 36) = w3 at *
  clear hW3
  refine wpAnyH_ready (rs := [7]) (by kernel_rfl) (by simp) ?_
  refine AllReadyH.cons (by rw [List.getElem?_toArray]; rfl) (fun K hK => ?_) AllReadyH.nil
  rw [if_pos (by rfl)]
  refine wp_append_row _ _ rfl Tryd.underlying26 hi.out hz0.out hz1.out hz2.out zero_cells (show w3.drew.ownsRow 0 _ 32 (.slice (some ⟨W0.heap.size, 0, none⟩) 0 0) 0 [] from O3.out) ((show RdHs w3.drew q Ss from RS3.out).src (P := Tryd.prog) HOK.out Tryd.underlying26) ?b1 ?b2 ?_
  case b1 => unfold maxLen; omega
  case b2 => omega
  intro q6 k6 w6 own6 grow6' fr6'
  have grow6 : w3.drew.grownBy w6 (Value.slice (some ⟨W0.heap.size, 0, none⟩) 0 0).ownBlock := grow6'
  have fr6 : (Value.slice q6 (0 + Ss.length) k6).ownBlock = (Value.slice (some ⟨W0.heap.size, 0, none⟩) 0 0).ownBlock ∨ (Value.slice q6 (0 + Ss.length) k6).ownBlock = some w3.heap.size := fr6'
  have hsz3 : w.heap.size ≤ W0.heap.size := B0.out.size
  have G6 : Below w.heap.size w w6 := B3.out.drew.grown grow6 B3.out.size (fun g hg => by simp [Value.ownBlock] at hg; omega)
  have hs0 : w.heap.size + 1 < W0.heap.size := (Array.getElem?_eq_some_iff.1 HB0.out.2).1
  have K6 : Chg w3.drew w6 [W0.heap.size] := Chg.grown grow6 (fun k hk => by simp [Value.ownBlock] at hk; simp [hk])
  have S6 : Hid (w6.heap[w.heap.size]? = some (.cells #[.int .i64 P, .int .i64 C, .slice q Ss.length k] 28 (0, 0)) ∧ w6.heap[w.heap.size + 1]? = some (.cells #[.int .i64 0, .int .i64 0, .slice none 0 0] 32 (0, 0))) := Lib.hid ⟨by rw [K6.block _ (Array.getElem?_eq_some_iff.1 S3.out.1).1 (by simp; omega)]; exact S3.out.1, by rw [K6.block _ (Array.getElem?_eq_some_iff.1 S3.out.2).1 (by simp; omega)]; exact S3.out.2⟩
  have HN : Hid (HsS w w6 (.slice q6 Ss.length k6) Ss) := by
    refine ⟨?_, HOK.out, fun g hg => ?_, G6⟩
    · have := own6; simp only [Nat.zero_add, List.nil_append] at this; exact this
    · rcases fr6 with e | e
      · simp only [Nat.zero_add] at e
        rw [e] at hg; simp [Value.ownBlock] at hg; omega
      · simp only [Nat.zero_add] at e
        rw [e] at hg; simp at hg; have := B3.out.size; omega
  simp only [Nat.zero_add]
  clear own6 grow6 fr6 grow6' fr6' G6 K6
  refine hK.out _ _ (S6.out.1) (fun h7 => ?_)
  clear hK K
  try simp only [Act.put, List.setIfInBounds_toArray, List.set_cons_zero, List.set_cons_succ]
  refine wpAnyH_take (i := 8) (v := ?_) (by rw [List.getElem?_toArray]; rfl) (by kernel_rfl) (by kernel_rfl) (by kernel_rfl) (by exact fun _ _ _ h => h) (Or.inl ⟨by rfl, ?_⟩) h7 ?_
  rotate_left
  · intro W hW
    go_simp
    all_goals with_reducible rfl
  try simp only [Act.put, List.setIfInBounds_toArray, List.set_cons_zero, List.set_cons_succ]
  refine wpAnyH_ready (rs := [9]) (by kernel_rfl) (by simp) ?_
  refine AllReadyH.cons (by rw [List.getElem?_toArray]; rfl) (fun K hK => ?_) AllReadyH.nil
  rw [if_pos (by rfl)]
  have hcz : ∀ j, w6.frozen? ⟨w.heap.size + 1, j, none⟩ = false := fun j => Joins.unfrozen_of_block S6.out.2 j
  have z0 := (Joins.cell_of_block S6.out.2 0).trans (rfl : _ = some _)
  have z1 := (Joins.cell_of_block S6.out.2 1).trans (rfl : _ = some _)
  have z2 := (Joins.cell_of_block S6.out.2 2).trans (rfl : _ = some _)
  have f0 := hcz 0
  have f1 := hcz 1
  have f2 := hcz 2
  clear hcz
  go_wp2_with fail
  refine hK.out _ _ (by rw [Below.heap_setCell _ _ _ _ (by simp), Below.heap_setCell _ _ _ _ (by simp), Below.heap_setCell _ _ _ _ (by simp)]; exact S6.out.1) (fun h9 => ?_)
  clear hK K
  try simp only [Act.put, List.setIfInBounds_toArray, List.set_cons_zero, List.set_cons_succ]
  refine wpAnyH_done (by kernel_rfl) ?_ _
  have hne : (Value.slice q6 Ss.length k6).ownBlock ≠ some (w.heap.size + 1) := own_ne HN.out.own S6.out.2 (by decide)
  have HF : Hid (HsS w (((w6.setCell ⟨w.heap.size + 1, 0, none⟩ (.int .i64 P)).setCell ⟨w.heap.size + 1, 1, none⟩ (.int .i64 C)).setCell ⟨w.heap.size + 1, 2, none⟩ (.slice q6 Ss.length k6)) (.slice q6 Ss.length k6) Ss) := by
    refine ⟨own_keep HN.out.own (fun j hj => ?_), HN.out.ok, HN.out.fresh, ((HN.out.below.setCell (p := ⟨_, 0, none⟩) (by simp) _).setCell (p := ⟨_, 1, none⟩) (by simp) _).setCell (p := ⟨_, 2, none⟩) (by simp) _⟩
    have hj1 : j ≠ w.heap.size + 1 := fun e => hne (e ▸ hj)
    rw [Below.heap_setCell _ _ _ _ hj1, Below.heap_setCell _ _ _ _ hj1, Below.heap_setCell _ _ _ _ hj1]
  have hb9 : (((w6.setCell ⟨w.heap.size + 1, 0, none⟩ (.int .i64 P)).setCell ⟨w.heap.size + 1, 1, none⟩ (.int .i64 C)).setCell ⟨w.heap.size + 1, 2, none⟩ (.slice q6 Ss.length k6)).heap[w.heap.size + 1]? = some (.cells #[.int .i64 P, .int .i64 C, .slice q6 Ss.length k6] 32 (0, 0)) :=
    Joins.block_setCell (Joins.block_setCell (Joins.block_setCell S6.out.2 _) _) _
  have z0 := (Joins.cell_of_block hb9 0).trans (rfl : _ = some _)
  have z1 := (Joins.cell_of_block hb9 1).trans (rfl : _ = some _)
  have z2 := (Joins.cell_of_block hb9 2).trans (rfl : _ = some _)
  clear h9 hne h0 h4 h7 hb9
  go_wp2_with fail
  refine bodyPost_ret (v := .agg #[.int .i64 P, .int .i64 C, .slice q6 Ss.length k6]) (by simp [results, Tryd.results28, go_sem, z0, z1, z2]) rfl ⟨q6, k6, rfl, HF.out⟩

end Go.Proofs.YtebeacejlkiglaaDoor
namespace Go.Proofs.YtebeacejlkiglaaDoor
set_option maxRecDepth 100000
open Go.RowKit

/-- The lowest level, its first k hashes. -/
def lvN (L : List (List Int)) (k : Nat) : List (List Int) := (List.range k).map fun (i : Nat) => hItem i (L.getD i [])
theorem lvN_len (L : List (List Int)) (k : Nat) : (lvN L k).length = k := by simp [lvN]
theorem lvN_succ (L : List (List Int)) (k : Nat) : lvN L (k + 1) = lvN L k ++ [hItem k (L.getD k [])] := by simp [lvN, List.range_succ]
theorem hItem_len (n : Int) (xs : List Int) : (hItem n xs).length = 32 := sha_len _
theorem hItem_bytes (n : Int) (xs : List Int) : Bytes (hItem n xs) := sha_bytes _
theorem lvN_ok (L : List (List Int)) (k : Nat) : HsOk (lvN L k) := fun F h => by
  obtain ⟨i, _, rfl⟩ := List.mem_map.1 h
  exact ⟨hItem_len _ _, hItem_bytes _ _⟩
/-- The level above, its place j. -/
def upAt (Ss : List (List Int)) (j : Nat) : List Int := if 2 * j + 1 < Ss.length then pr (Ss.getD (2 * j) []) (Ss.getD (2 * j + 1) []) else Ss.getD (2 * j) []
def upK (Ss : List (List Int)) (k : Nat) : List (List Int) := (List.range k).map (upAt Ss)
def upL (Ss : List (List Int)) : List (List Int) := upK Ss ((Ss.length + 1) / 2)
theorem upK_len (Ss : List (List Int)) (k : Nat) : (upK Ss k).length = k := by simp [upK]
theorem upL_len (Ss : List (List Int)) : (upL Ss).length = (Ss.length + 1) / 2 := upK_len _ _
theorem upK_succ (Ss : List (List Int)) (k : Nat) : upK Ss (k + 1) = upK Ss k ++ [upAt Ss k] := by simp [upK, List.range_succ]
theorem upL_ok {Ss : List (List Int)} (ok : HsOk Ss) : HsOk (upL Ss) := fun F h => by
  obtain ⟨j, hj, rfl⟩ := List.mem_map.1 h
  have hj' := List.mem_range.1 hj
  unfold upAt
  split
  · exact ⟨sha_len _, sha_bytes _⟩
  · exact ok.get _ (by omega)
theorem upL_get (Ss : List (List Int)) {j : Nat} (hj : j < (Ss.length + 1) / 2) : (upL Ss).getD j [] = upAt Ss j := by
  simp [upL, upK, List.getD, hj]

theorem fill_step {place : Nat → Option (Nat × Nat)} {rest : List (Nat × Value)} {i off size : Nat} {v : Value} {pre mid post vs : List Value} (hp : place i = some (off, size)) (hv : v.cells = vs.toArray)
    (h1 : pre.length = off) (h2 : mid.length = size) (h3 : vs.length = size) :
    Instr.fill place (pre ++ (mid ++ post)).toArray ((i, v) :: rest) = Instr.fill place (pre ++ (vs ++ post)).toArray rest := by
  rw [Instr.fill, hp]
  have e1 : v.cells.size = size := by rw [hv]; simpa using h3
  have e2 : off + size ≤ (pre ++ (mid ++ post)).toArray.size := by simp; omega
  have e3 : (decide (v.cells.size ≠ size) || decide (off + v.cells.size > (pre ++ (mid ++ post)).toArray.size)) = false := by
    rw [e1]; simp at e2 ⊢; omega
  simp only [e3]
  rw [if_neg (by simp), hv, fold_put off size vs pre mid post h1 h2 h3]

/-! ### Proposals -/

/-- A new row of one element. -/
theorem run_buildSlice_one {P : Program} {t e : TypeId} {n : Nat} {zs xs : List Value} (w : World) (ht : P.underlying t = some (.slice e)) (hs : (sizeOf e).run P w = .ok n w) (hz : (zeroValue e).run P w = .ok (.agg zs.toArray) w)
    (hn : 0 < n) (hm : n ≤ 65536) (hx : xs.length = n) :
    (Instr.buildSlice t 1 #[(0, .agg xs.toArray)]).run P w = .ok (.slice (some ⟨w.heap.size, 0, none⟩) 1 1) (w.alloc (.cells xs.toArray e)) := by
  have hf : ∀ m : List Value, m.length = n → Instr.fill (fun i => some (i * n, n)) m.toArray #[(0, Value.agg xs.toArray)].toList = some xs.toArray := by
    intro m hm
    have := fill_step (place := fun i => some (i * n, n)) (rest := []) (i := 0) (off := 0) (size := n) (v := .agg xs.toArray) (pre := []) (mid := m) (post := []) (vs := xs) (by simp) rfl rfl hm hx
    simpa [Instr.fill] using this
  have hf' := hf ((Array.range (1 * n)).map (zs.toArray[· % zs.toArray.size]!)).toList (by simp)
  rw [Array.toArray_toList] at hf'
  unfold Instr.buildSlice
  simp only [Sem.run_bind, run_underlying ht, Result.andThen_ok, hs]
  rw [if_neg (by omega)]
  rw [if_neg (by omega)]
  simp only [Sem.run_bind, Sem.run_pure, Result.andThen_ok, hz, Value.cells]
  rw [hf']
  simp [newRow]
def rowNew (t : TypeId) (ps : Array (Nat × Value)) : Sem Value := Instr.buildSlice t 1 ps
@[go_sem ↓] theorem Tryd.slice_hs (ps : Array (Nat × Value)) : Instr.buildSlice 26 1 ps = rowNew 26 ps := rfl
@[go_sem] theorem Tryd.run_slice_hs (w : World) (F : List Int) (hF : F.length = 32) :
    (rowNew 26 #[(0, .agg (hc F).toArray)]).run Tryd.prog w = .ok (.slice (some ⟨w.heap.size, 0, none⟩) 1 1) (w.alloc (.cells (hc F).toArray 36)) :=
  run_buildSlice_one w Tryd.underlying26 (by kernel_rfl) (Tryd.zero_hash w) (n := 32) (by decide) (by decide) (by rw [hc_len, hF])

/-- A made row, stored into from its head on. -/
structure MkS (w wr : World) (g n : Nat) (Ss : List (List Int)) : Prop where
  blk : ∃ tail : List Value, wr.heap[g]? = some (.cells (hcs Ss ++ tail).toArray 36 (0, 0)) ∧ tail.length = (n - Ss.length) * 32
  ok : HsOk Ss
  below : Below w.heap.size w wr
  g : w.heap.size ≤ g
theorem MkS.on {w wr w3 : World} {g n : Nat} {Ss : List (List Int)} (h : MkS w wr g n Ss) (hb : Below wr.heap.size wr w3) : MkS w w3 g n Ss := by
  obtain ⟨tail, h1, h2⟩ := h.blk
  exact ⟨⟨tail, blk_onB2 h1 hb, h2⟩, h.ok, h.below.trans (hb.mono h.below.size), h.g⟩
theorem MkS.there {w wr : World} {g n : Nat} {Ss : List (List Int)} (h : MkS w wr g n Ss) (hk : Ss.length < n) : wr.there g (Ss.length * 32) 32 := fun j hj => by
  obtain ⟨tail, h1, h2⟩ := h.blk
  refine ⟨?_, Joins.unfrozen_of_block h1 _⟩
  rw [cell_of_row _ _ _ _ _ _ h1]
  have h3 := hcs_len h.ok
  simp only [List.getElem?_toArray]
  have h4 : 32 ≤ (n - Ss.length) * 32 := by omega
  rw [List.getElem?_eq_getElem (by rw [List.length_append, h3, h2]; omega)]
  rfl
theorem MkS.put {w wr : World} {g n : Nat} {Ss : List (List Int)} (h : MkS w wr g n Ss) (hk : Ss.length < n) {F : List Int} (hF : F.length = 32) (bF : Bytes F) : MkS w (wr.setCells g (Ss.length * 32) (hc F)) g n (Ss ++ [F]) := by
  obtain ⟨tail, h1, h2⟩ := h.blk
  refine ⟨⟨tail.drop 32, ?_, ?_⟩, h.ok.append (HsOk.one hF bF), below_setCells' _ h.g _ _ h.below, h.g⟩
  · have := setCells_block (b := g) (t := 36) (fr := (0, 0)) (hc F) (o := Ss.length * 32) (w := wr) (pre := hcs Ss) (mid := tail.take 32) (post := tail.drop 32) (by rw [List.take_append_drop]; exact h1) (hcs_len h.ok) (by rw [hc_len, hF, List.length_take, h2]; omega)
    rw [hcs_append, hcs_one, List.append_assoc]
    exact this
  · rw [List.length_drop, h2, List.length_append, List.length_singleton]
    omega
theorem MkS.rd {w wr : World} {g n : Nat} {Ss : List (List Int)} (h : MkS w wr g n Ss) : RdHs wr (some ⟨g, 0, none⟩) Ss := by
  obtain ⟨tail, h1, h2⟩ := h.blk
  exact rdHs_block h1 h.ok
theorem MkS.made {w w1 : World} {g n : Nat} {xs : List Value} (own : w1.ownsRow 0 36 32 (.slice (some ⟨g, 0, none⟩) n n) n xs) (hb : Below w.heap.size w w1) (hg : w.heap.size ≤ g) : MkS w w1 g n [] := by
  rcases own.2 with ⟨e, _⟩ | ⟨g', cap, cur, e, _, h1, h2, h3, h4, h5⟩
  · simp at e
  · simp only [Value.slice.injEq, Option.some.injEq, Addr.mk.injEq] at e
    obtain ⟨⟨rfl, -, -⟩, -, rfl⟩ := e
    refine ⟨⟨cur.toList, ?_, ?_⟩, HsOk.nil, hb, hg⟩
    · show _ = some (Obj.cells (hcs [] ++ cur.toList).toArray _ _)
      rw [show hcs [] ++ cur.toList = cur.toList from rfl, Array.toArray_toList]
      exact h1
    · rw [Array.length_toList, h4, List.length_nil, Nat.sub_zero]

set_option maxHeartbeats 4000000 in
theorem items_any {w : World} {v : Value} {L : List (List Int)} (hL : RdL w v L []) (bL : ∀ b ∈ L, Bytes b) (hn : L.length ≤ 65536) (hx : ∀ i, (L.getD i []).length ≤ 1000000) (hT : Tbl w) :
    Calls Tryd.prog 29 #[v] w fun e w' => ∃ q, e = .returned (.slice q L.length L.length) ∧ RdHs w' q (lvN L L.length) ∧ Below w.heap.size w w' ∧ ∀ a, q = some a → w.heap.size ≤ a.block := by
  obtain ⟨i0, hi, hz0, hz1, hz2⟩ := info_parts Tryd.infoHs
  replace hi := Lib.hid hi
  replace hz0 := Lib.hid hz0
  replace hz1 := Lib.hid hz1
  replace hz2 := Lib.hid hz2
  obtain ⟨q, c, rfl⟩ : ∃ q c, v = .slice q L.length c := by obtain ⟨q, c, e, _⟩ := hL; exact ⟨q, c, e⟩
  have HL := Lib.hid hL
  have HT := Lib.hid hT
  have HX := Lib.hid hx
  have HB : Hid (∀ i, i < L.length → Bytes (L.getD i [])) := fun i hi => by
    have e : L.getD i [] = L[i] := by simp [List.getD, hi]
    rw [e]; exact bL _ (List.getElem_mem hi)
  clear hL hT hx bL
  go_enter Tryd.func29, Tryd.ntmps29
  go_wp2_with (refine wpList_make_full _ rfl _ _ _ rfl 0 _ _ _ _ Tryd.underlying26 hi.out hz0.out hz1.out _ _ _ _ L.length rfl rfl rfl rfl ?b1 ?b2 ?b3 ?_)
  case b1 => rw [hz2.out]; omega
  case b2 => unfold maxLen; omega
  case b3 => omega
  intro w1 own1 grow1
  have S1 : Hid (MkS w w1 w.heap.size L.length (lvN L 0)) := MkS.made own1 ((Below.refl _ _).grown grow1 (Nat.le_refl _) (by intro k hk; simp at hk)) (Nat.le_refl _)
  clear own1 grow1
  go_wp2_with fail
  go_loopw [11] (fun iv wr => ∃ i : Nat, iv = .int .i64 i ∧ i ≤ L.length ∧ Hid (MkS w wr w.heap.size L.length (lvN L i))) (fun iv _ => L.length - (intOf iv).toNat)
  case atStart => exact ⟨0, rfl, by omega, S1⟩
  case round =>
    clear S1
    obtain ⟨i, rfl, hil, hS⟩ := hrel
    by_cases hlt : i < L.length
    · obtain ⟨b, off, r, m, kc, -, rfl, -, cb, hm, hrd, -⟩ := (HL.out.chg (Chg.below hS.out.below (Nat.le_refl _) [])).at hlt
      have KI := Lib.hid (item_any (w := wr) (n := (i : Int)) (by omega) (by omega) hrd (HB.out i hlt) (HX.out i) (HT.out.on hS.out.below HT.out.pos))
      obtain ⟨xs, hxs⟩ : ∃ xs, L.getD i [] = xs := ⟨_, rfl⟩
      have HS := Lib.hid (lvN_succ L i)
      rw [hxs] at hm KI HS
      clear hxs
      have lY := hItem_len i xs
      have bY := Lib.hid (hItem_bytes i xs)
      subst hm
      clear hrd
      obtain ⟨Y, hY⟩ : ∃ Y, hItem i xs = Y := ⟨_, rfl⟩
      rw [hY] at lY bY HS KI
      have lc := hc_len Y
      clear hY
      have hil2 := lvN_len L i
      go_wp2_with fail
      refine KI.out.mono ?_
      rintro e w3 ⟨rfl, hb3⟩
      have S3 := Lib.hid (hS.out.on hb3)
      have ct0 := S3.out.there (by rw [hil2]; exact hlt)
      rw [hil2] at ct0
      have HN : Hid (MkS w (w3.setCells w.heap.size (i * 32) (hc Y)) w.heap.size L.length (lvN L (i + 1))) := by
        have := S3.out.put (by rw [hil2]; exact hlt) lY bY.out
        rw [hil2] at this
        rw [HS.out]; exact this
      clear hb3 KI hil2 hS S3
      go_wp2_with fail
      go_roundw
      case rel => exact ⟨i + 1, by go_num, by omega, HN⟩
      case measure => simp [intOf]; omega
    · obtain rfl : i = L.length := by omega
      go_wp2_with fail
      go_ret
      exact ⟨_, rfl, hS.out.rd, hS.out.below, fun a ha => by cases ha; exact hS.out.g⟩

/-- What the call of the level above reads and has. -/
structure NxS (w wr : World) (q : Option Addr) (Ss : List (List Int)) (v : Value) (Ts : List (List Int)) : Prop where
  hs : HsS w wr v Ts
  rd : RdHs wr q Ss
theorem RdHs.chg {w w' : World} {q : Option Addr} {Ss : List (List Int)} {S : List Nat} (h : RdHs w q Ss) (hl : ∀ i, i < Ss.length → (Ss.getD i []).length = 32) (hc : Chg w w' S) (hS : Ss ≠ [] → ∀ b off, q = some ⟨b, off, none⟩ → b ∉ S) : RdHs w' q Ss := by
  rcases h with h | ⟨b, off, e, hx⟩
  · exact .inl h
  · refine .inr ⟨b, off, e, fun i hi => ?_⟩
    have hne : Ss ≠ [] := fun e => by rw [e] at hi; simp at hi
    have h1 := hx i hi
    have h2 : (rowOf w b (off + i * 32) 32).length = 32 := by rw [h1, hc_len, hl i hi]
    have h3 : b < w.heap.size := by
      unfold rowOf at h2
      cases hh : w.heap[b]? with
      | none => rw [hh] at h2; simp at h2
      | some x => exact (Array.getElem?_eq_some_iff.1 hh).1
    unfold rowOf at h1 ⊢
    rw [hc.block b h3 (hS hne b off e)]
    exact h1

end Go.Proofs.YtebeacejlkiglaaDoor
