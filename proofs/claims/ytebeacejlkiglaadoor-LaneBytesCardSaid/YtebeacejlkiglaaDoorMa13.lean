/-
  The program's Check.; basculelaw07.knows answers true.; The walks of basculelaw02: Lent, Stays.
-/
import Derived.Test.YtebeacejlkiglaaDoorMa1
import Derived.Test.YtebeacejlkiglaaDoorMa4
import Derived.Test.YtebeacejlkiglaaDoorMa5
import Derived.Test.YtebeacejlkiglaaDoorMa9
import Derived.Test.YtebeacejlkiglaaDoorMa12
namespace Go.Proofs.YtebeacejlkiglaaDoor
set_option maxRecDepth 100000
open Go.RowKit

/-- The slice's address, u hashes on. -/
def adr (q : Option Addr) (u : Nat) : Option Addr := q.map fun a => ⟨a.block, a.off + u * 32, none⟩

set_option maxHeartbeats 8000000 in
theorem Check_any {w : World} {P C : Int} {q : Option Addr} {k : Nat} {Ss : List (List Int)} {G xs : List Int} {v : Value} (hG : G.length = 32) (hs : RdHs w q Ss) (hS : ∀ i, i < Ss.length → (Ss.getD i []).length = 32 ∧ Bytes (Ss.getD i [])) (hn : Ss.length ≤ maxLen) (hr : Rd w v xs) (bx : Bytes xs) (hx : xs.length ≤ 4000) (hk : Ss.length ≤ k) (hkm : k ≤ maxLen) (hT : Tbl w) :
    Calls Tryd.prog 18 #[.agg (hc G).toArray, v, .agg #[.int .i64 P, .int .i64 C, .slice q Ss.length k]] w fun e w' => e = .returned (.int .i64 (ckR P C Ss xs G)) ∧ Below w.heap.size w w' := by
  have b1 : Below w.heap.size w (w.alloc (.cells (hc G).toArray 36)) := (Below.refl _ _).alloc (Nat.le_refl _) _
  have b2 : Below (w.alloc (.cells (hc G).toArray 36)).heap.size (w.alloc (.cells (hc G).toArray 36)) ((w.alloc (.cells (hc G).toArray 36)).alloc (.cells #[.int .i64 P, .int .i64 C, .slice q Ss.length k] 28)) := (Below.refl _ _).alloc (Nat.le_refl _) _
  have hz : (w.alloc (.cells (hc G).toArray 36)).heap.size = w.heap.size + 1 := by simp
  have HA := Lib.hid ((HashAt.new w G).on b2)
  have hp := heap_alloc_new (w.alloc (.cells (hc G).toArray 36)) (.cells #[.int .i64 P, .int .i64 C, .slice q Ss.length k] 28)
  rw [hz] at hp
  have HP := Lib.hid hp
  have B0 := Lib.hid (b1.trans (b2.mono b1.size))
  have NB : Hid (Ss ≠ [] → ∀ b off, q = some ⟨b, off, none⟩ → b < w.heap.size) := by
    show _ → _
    intro h0 b off e
    rcases hs with h | ⟨b', off', e', hx⟩
    · exact absurd h h0
    · have hp : 0 < Ss.length := List.length_pos_iff.2 h0
      rw [e] at e'
      simp only [Option.some.injEq, Addr.mk.injEq] at e'
      obtain ⟨rfl, rfl, -⟩ := e'
      have h1 := hx 0 hp
      have h2 : (rowOf w b (off + 0 * 32) 32).length = 32 := by rw [h1, hc_len, (hS 0 hp).1]
      unfold rowOf at h2
      cases hh : w.heap[b]? with
      | none => rw [hh] at h2; simp at h2
      | some x => exact (Array.getElem?_eq_some_iff.1 hh).1
  have HSl : Hid (∀ i, i < Ss.length → (Ss.getD i []).length = 32) := fun i hi => (hS i hi).1
  have HSS := Lib.hid hS
  have HS0 : Hid (RdHs ((w.alloc (.cells (hc G).toArray 36)).alloc (.cells #[.int .i64 P, .int .i64 C, .slice q Ss.length k] 28)) q Ss) := hs.on HSl.out B0.out
  have HR := Lib.hid (hr.on B0.out)
  have HX := Lib.hid bx
  have HG := Lib.hid hG
  have HT0 := Lib.hid hT
  unfold maxLen at hkm
  have c0 : ((w.alloc (.cells (hc G).toArray 36)).alloc (.cells #[.int .i64 P, .int .i64 C, .slice q Ss.length k] 28)).cell? ⟨w.heap.size + 1, 0, none⟩ = some (.int .i64 P) := (Joins.cell_of_block hp 0).trans rfl
  have c1 : ((w.alloc (.cells (hc G).toArray 36)).alloc (.cells #[.int .i64 P, .int .i64 C, .slice q Ss.length k] 28)).cell? ⟨w.heap.size + 1, 1, none⟩ = some (.int .i64 C) := (Joins.cell_of_block hp 1).trans rfl
  have c2 : ((w.alloc (.cells (hc G).toArray 36)).alloc (.cells #[.int .i64 P, .int .i64 C, .slice q Ss.length k] 28)).cell? ⟨w.heap.size + 1, 2, none⟩ = some (.slice q Ss.length k) := (Joins.cell_of_block hp 2).trans rfl
  have KR := Lib.hid (right_any (w := (w.alloc (.cells (hc G).toArray 36)).alloc (.cells #[.int .i64 P, .int .i64 C, .slice q Ss.length k] 28)) (P := P) (C := C) (q := q) (k := k) hn)
  clear hp hz b1 b2 hs hr bx hS hG hT
  go_enter Tryd.func18, Tryd.ntmps18
  go_wp2_with fail
  go_step3
  go_wp2_with fail
  refine KR.out.mono ?_
  rintro e w1 ⟨rfl, hb1⟩
  have HA1 := Lib.hid (HA.out.on hb1)
  have HP1 := Lib.hid (blk_onB2 HP.out hb1)
  have HS1 : Hid (RdHs w1 q Ss) := HS0.out.on HSl.out hb1
  have HR1 := Lib.hid (HR.out.on hb1)
  have B1 := Lib.hid (B0.out.trans (hb1.mono B0.out.size))
  clear hb1 HA HP HS0 HR B0 KR c0 c1 c2
  by_cases hok : okPf P C Ss.length = true
  case neg =>
    have hok' : okPf P C Ss.length = false := by simpa using hok
    have HC : Hid (ckR P C Ss xs G = 21) := Lib.hid (by unfold ckR; rw [if_neg hok])
    rw [hok']
    clear hok hok'
    go_wp2_with fail
    try rw [Exit.noGoto_ret]
    go_ret
    exact ⟨by rw [HC.out]; rfl, B1.out⟩
  have HC : Hid (ckR P C Ss xs G = if hList C (chk 17 P.toNat C.toNat (hItem P xs) Ss) = G then 0 else 22) := Lib.hid (by unfold ckR; rw [if_pos hok])
  rw [hok]
  obtain ⟨p1, p2, p3, p4⟩ := of_decide_eq_true hok
  clear hok
  obtain ⟨p0, rfl⟩ : ∃ p0 : Nat, P = p0 := ⟨P.toNat, by omega⟩
  obtain ⟨k0, rfl⟩ : ∃ k0 : Nat, C = k0 := ⟨C.toNat, by omega⟩
  rw [Int.toNat_natCast, Int.toNat_natCast] at HC p4
  have hp0 : p0 < k0 := by omega
  have hk0 : k0 ≤ 65536 := by omega
  clear p1 p2 p3
  have HL4 := Lib.hid p4
  have h17 : Ss.length ≤ 17 := by rw [p4]; exact sd_le _ _ _
  clear p4
  have c0 : w1.cell? ⟨w.heap.size + 1, 0, none⟩ = some (.int .i64 p0) := (Joins.cell_of_block HP1.out 0).trans rfl
  go_wp2_with fail
  refine (item_any (by omega) (by omega) HR1.out HX.out (by omega) (HT0.out.on B1.out HT0.out.pos)).mono ?_
  rintro e w2 ⟨rfl, hb2⟩
  have hlI : (hItem p0 xs).length = 32 := sha_len _
  have hbI : Bytes (hItem p0 xs) := sha_bytes _
  obtain ⟨I, hI⟩ : ∃ I, hItem p0 xs = I := ⟨_, rfl⟩
  rw [hI] at hlI hbI HC ⊢
  clear hI c0
  have b3 : Below w2.heap.size w2 ((w2.alloc (.cells (hc zero32).toArray 36)).setCells w2.heap.size 0 (hc I)) := below_setCells' _ (Nat.le_refl _) _ _ ((Below.refl _ _).alloc (Nat.le_refl _) _)
  have b23 := hb2.trans (b3.mono hb2.size)
  have ct := (HashAt.new w2 zero32).there zero32_len
  have HI := Lib.hid ((HashAt.new w2 zero32).put zero32_len hlI)
  have lI := hc_len I
  have HA2 := Lib.hid (HA1.out.on b23)
  have HP2 := Lib.hid (blk_onB2 HP1.out b23)
  have HS2 : Hid (RdHs ((w2.alloc (.cells (hc zero32).toArray 36)).setCells w2.heap.size 0 (hc I)) q Ss) := HS1.out.on HSl.out b23
  have B2 := Lib.hid (B1.out.trans (b23.mono B1.out.size))
  have c0 : ((w2.alloc (.cells (hc zero32).toArray 36)).setCells w2.heap.size 0 (hc I)).cell? ⟨w.heap.size + 1, 0, none⟩ = some (.int .i64 p0) := (Joins.cell_of_block HP2.out 0).trans rfl
  have c1 : ((w2.alloc (.cells (hc zero32).toArray 36)).setCells w2.heap.size 0 (hc I)).cell? ⟨w.heap.size + 1, 1, none⟩ = some (.int .i64 k0) := (Joins.cell_of_block HP2.out 1).trans rfl
  have c2 : ((w2.alloc (.cells (hc zero32).toArray 36)).setCells w2.heap.size 0 (hc I)).cell? ⟨w.heap.size + 1, 2, none⟩ = some (.slice q Ss.length k) := (Joins.cell_of_block HP2.out 2).trans rfl
  have LI := Lib.hid hlI
  have BI := Lib.hid hbI
  have N7 : Hid (w.heap.size + 1 < w2.heap.size) := by
    show _ < _
    have := (Array.getElem?_eq_some_iff.1 HP1.out).1
    have := hb2.size
    omega
  clear hb2 b3 b23 HA1 HP1 HS1 HR1 B1 hbI
  go_wp2_with fail
  go_region
  go_wp2_with fail
  clear ct c0 c1 c2 hlI
  have B2d := Lib.hid B2.out.drew
  generalize (w2.alloc (.cells (hc zero32).toArray 36)).setCells w2.heap.size 0 (hc I) = W3 at *
  generalize w2.heap.size = b7 at *
  obtain ⟨Z, hZ⟩ : ∃ Z, chk 17 p0 k0 I Ss = Z := ⟨_, rfl⟩
  rw [hZ] at HC
  have HZ0 := Lib.hid hZ
  clear hZ
  have HQ0 : Hid (0 < Ss.length → q = adr q 0) := by
    show _ → _
    intro h0
    rcases HS2.out with h | ⟨b, off, e, -⟩
    · rw [h] at h0; simp at h0
    · subst e; simp [adr]
  go_step3
  go_wp2_with fail
  generalize hw4 : W3.drew = W4
  have HI4 : Hid (HashAt W4 b7 I) := by rw [← hw4]; exact HI.out
  have HA4 : Hid (HashAt W4 w.heap.size G) := by rw [← hw4]; exact HA2.out
  have HP4 : Hid (W4.heap[w.heap.size + 1]? = some (.cells #[.int .i64 p0, .int .i64 k0, .slice q Ss.length k] 28 (0, 0))) := by rw [← hw4]; exact HP2.out
  have HS4 : Hid (RdHs W4 q Ss) := by rw [← hw4]; exact HS2.out
  have B4 : Hid (Below w.heap.size w W4) := by rw [← hw4]; exact B2d.out
  clear hw4 HI HA2 HP2 HS2 B2 B2d
  go_loopw [8, 9, 10] (fun pv cv uv wr => ∃ (f p c u : Nat) (H : List Int) (a' : Option Addr) (m1 m2 : Nat), pv = .int .i64 p ∧ cv = .int .i64 c ∧ uv = .slice a' m1 m2 ∧ p < c ∧ c ≤ 65536 ∧ u ≤ Ss.length ∧ m1 ≤ m2 ∧ m2 ≤ 9223372036854775807 ∧ m1 ≤ 17 ∧ Hid (m1 = Ss.length - u ∧ (u < Ss.length → a' = adr q u)) ∧ Hid (chk f p c H (Ss.drop u) = Z ∧ sd f p c = Ss.length - u ∧ c ≤ 2 ^ f) ∧ Hid (CSt w wr G (.cells #[.int .i64 p0, .int .i64 k0, .slice q Ss.length k] 28 (0, 0)) b7 H q Ss)) (fun _ cv _ _ => (intOf cv).toNat)
  case atStart => exact ⟨17, p0, k0, 0, I, q, Ss.length, k, rfl, rfl, rfl, hp0, hk0, by omega, hk, by omega, h17, Lib.hid ⟨by omega, HQ0.out⟩, Lib.hid ⟨by rw [List.drop_zero]; exact HZ0.out, by have := HL4.out; omega, by omega⟩, Lib.hid ⟨B4.out, HA4.out, HP4.out, HI4.out, LI.out, BI.out, HS4.out⟩⟩
  case round =>
    obtain ⟨f, p, c, u, H, a', m1, m2, rfl, rfl, rfl, hpc, hc5, hu, hm12, hm2, hm17, hM, hR, hS⟩ := hrel
    have hlb7 := (Array.getElem?_eq_some_iff.1 hS.out.hH).1
    by_cases hg : 1 < c
    · cases f with
      | zero => exfalso; have := hR.out.2.2; simp at this; omega
      | succ f =>
        have hi := bes_or hpc
        have hxb := bes_bits (p := p) (by omega)
        have ch := hS.out.hH.row hS.out.lH
        have lH := hS.out.lH
        have lHc := hc_len H
        obtain ⟨e1, e2, e3⟩ := hR.out
        unfold chk at e1
        unfold sd at e2
        rw [if_neg (by omega)] at e1 e2
        rw [Nat.pow_succ] at e3
        by_cases hb : bes p < c
        · rw [if_pos hb] at e1 e2
          have hul : u < Ss.length := by omega
          obtain ⟨bs, off, rfl, hcs⟩ : ∃ b off, q = some ⟨b, off, none⟩ ∧ ∀ i, i < Ss.length → rowOf wr b (off + i * 32) 32 = hc (Ss.getD i []) := by
            rcases hS.out.hS with h | h
            · rw [h] at hul; simp at hul
            · exact h
          have cx := hcs u hul
          have hx0 := HSS.out u hul
          have hgd : (Ss.drop u).getD 0 [] = Ss.getD u [] := by simp [List.getD]
          rw [hgd, List.drop_drop] at e1
          obtain ⟨x, hxe⟩ : ∃ x, Ss.getD u [] = x := ⟨_, rfl⟩
          rw [hxe] at cx hx0 e1
          clear hxe hcs hgd
          have lx := hc_len x
          have lx32 := hx0.1
          have ha' := hM.out.2 hul
          simp only [adr, Option.map_some] at ha'
          subst ha'
          have hm1 := hM.out.1
          have i1 : 1 ≤ m1 := by omega
          have HM : Hid (m1 - 1 = Ss.length - (u + 1)) := by show _ = _; omega
          have HAD : Hid (u + 1 < Ss.length → (if m2 = 1 then some (⟨bs, off + u * 32, none⟩ : Addr) else some ⟨bs, off + u * 32 + 32, none⟩) = adr (some ⟨bs, off, none⟩) (u + 1)) := by
            show _ → _
            intro h
            rw [if_neg (by omega)]
            simp [adr]
            try omega
          clear hm1
          have hbI : (bes p : Int) < (c : Int) := by omega
          have hor := hi.1 hb
          rcases Nat.mod_two_eq_zero_or_one p with hpm | hpm
          · have hp2 : (p : Int) % 2 = 0 := by omega
            have hlt2 : (p : Int) + 1 < c := by omega
            have HN : Hid (chk f (p / 2) ((c + 1) / 2) (pr H x) (Ss.drop (u + 1)) = Z ∧ sd f (p / 2) ((c + 1) / 2) = Ss.length - (u + 1) ∧ (c + 1) / 2 ≤ 2 ^ f) := ⟨by rw [if_neg (by omega)] at e1; exact e1, by omega, by omega⟩
            clear hor hpm hi hb e1 e2 e3 hR
            go_wp2_with fail
            go_region_with (first
              | (go_at_call 37; refine (Pair_any (show Tbl wr.drew from HT0.out.on hS.out.below.drew HT0.out.pos) hS.out.lH hx0.1 hS.out.bH hx0.2).mono ?_; rintro e w3 ⟨rfl, hb3⟩; (have H3 := (show HashAt wr.drew b7 H from hS.out.hH).on hb3); (have ct := H3.there hS.out.lH); rw [show sha (frm (sn pairS) [H, x]) = pr H x from rfl]; (have hYl : (pr H x).length = 32 := sha_len _); (have lY := hc_len (pr H x)); (have HNS := Lib.hid (hS.out.next H3 HSl.out hb3 N7.out hYl (sha_bytes _) NB.out))))
            all_goals
              go_wp2_with fail
              go_roundw
              case rel => exact ⟨f, p / 2, (c + 1) / 2, u + 1, _, _, m1 - 1, m2 - 1, by go_num, by go_num, rfl, by omega, by omega, by omega, by omega, by omega, by omega, Lib.hid ⟨HM.out, HAD.out⟩, HN, HNS⟩
              case measure => simp [intOf]; omega
          · have hp2 : (p : Int) % 2 = 1 := by omega
            have HN : Hid (chk f (p / 2) ((c + 1) / 2) (pr x H) (Ss.drop (u + 1)) = Z ∧ sd f (p / 2) ((c + 1) / 2) = Ss.length - (u + 1) ∧ (c + 1) / 2 ≤ 2 ^ f) := ⟨by rw [if_pos hpm] at e1; exact e1, by omega, by omega⟩
            clear hor hpm hi hb e1 e2 e3 hR
            go_wp2_with fail
            go_region_with (first
              | (go_at_call 37; refine (Pair_any (show Tbl wr.drew from HT0.out.on hS.out.below.drew HT0.out.pos) hx0.1 hS.out.lH hx0.2 hS.out.bH).mono ?_; rintro e w3 ⟨rfl, hb3⟩; (have H3 := (show HashAt wr.drew b7 H from hS.out.hH).on hb3); (have ct := H3.there hS.out.lH); rw [show sha (frm (sn pairS) [x, H]) = pr x H from rfl]; (have hYl : (pr x H).length = 32 := sha_len _); (have lY := hc_len (pr x H)); (have HNS := Lib.hid (hS.out.next H3 HSl.out hb3 N7.out hYl (sha_bytes _) NB.out))))
            all_goals
              go_wp2_with fail
              go_roundw
              case rel => exact ⟨f, p / 2, (c + 1) / 2, u + 1, _, _, m1 - 1, m2 - 1, by go_num, by go_num, rfl, by omega, by omega, by omega, by omega, by omega, by omega, Lib.hid ⟨HM.out, HAD.out⟩, HN, HNS⟩
              case measure => simp [intOf]; omega
        · rw [if_neg hb] at e1 e2
          have hbI : (c : Int) ≤ (bes p : Int) := by omega
          have hor : ¬ (p % 2 = 1 ∨ p + 1 < c) := fun h => hb (hi.2 h)
          have hp2 : (p : Int) % 2 = 0 := by omega
          have hlt2 : ¬ (p : Int) + 1 < c := by omega
          have HN : Hid (chk f (p / 2) ((c + 1) / 2) H (Ss.drop u) = Z ∧ sd f (p / 2) ((c + 1) / 2) = Ss.length - u ∧ (c + 1) / 2 ≤ 2 ^ f) := ⟨e1, by omega, by omega⟩
          clear hor hi hb e1 e2 e3 hR
          go_wp2_with fail
          go_roundw
          case rel => exact ⟨f, p / 2, (c + 1) / 2, u, H, a', m1, m2, by go_num, by go_num, rfl, by omega, by omega, by omega, hm12, hm2, hm17, hM, HN, hS⟩
          case measure => simp [intOf]; omega
    · have hHZ : H = Z := by
        have e1 := hR.out.1
        cases f with
        | zero => exact e1
        | succ f => unfold chk at e1; rw [if_pos (by omega)] at e1; exact e1
      subst hHZ
      clear hR
      have hlY : (hList (k0 : Int) H).length = 32 := sha_len _
      have KT := Lib.hid (list_any (w := wr.drew) (n := (k0 : Int)) (F := H) (by omega) (by omega) hS.out.lH hS.out.bH (show Tbl wr.drew from HT0.out.on hS.out.below.drew HT0.out.pos))
      obtain ⟨Y, hY⟩ : ∃ Y, hList (k0 : Int) H = Y := ⟨_, rfl⟩
      rw [hY] at hlY KT HC
      clear hY
      have lY := hc_len Y
      have lG := hc_len G
      have hG32 := HG.out
      have c1 : wr.cell? ⟨w.heap.size + 1, 1, none⟩ = some (.int .i64 k0) := (Joins.cell_of_block hS.out.hP 1).trans rfl
      have ch := hS.out.hH.row hS.out.lH
      have lH := hS.out.lH
      have lHc := hc_len H
      have cg := hS.out.hA.row HG.out
      by_cases hyg : Y = G
      · have HC2 : Hid (ckR (p0 : Int) (k0 : Int) Ss xs G = 0) := by show _ = _; rw [HC.out, if_pos hyg]
        have dg : (Y == G) = true := by rw [hyg]; simp
        clear hyg
        go_wp2_with fail
        go_region_with (first
          | (go_at_call 33; refine KT.out.mono ?_; rintro e w3 ⟨rfl, hb3⟩; (have cg3 := ((show HashAt wr.drew w.heap.size G from hS.out.hA).on hb3).row HG.out); (have BE := Lib.hid (hS.out.below.drew.trans (hb3.mono (show w.heap.size ≤ wr.drew.heap.size from hS.out.below.size))))))
        all_goals
          go_wp2_with fail
          try rw [Exit.noGoto_ret]
          try rw [Exit.noGoto_normal]
          try go_wp2_with fail
          go_ret
          exact ⟨by rw [HC2.out]; rfl, BE.out⟩
      · have HC2 : Hid (ckR (p0 : Int) (k0 : Int) Ss xs G = 22) := by show _ = _; rw [HC.out, if_neg hyg]
        have dg : (Y == G) = false := by simpa using hyg
        clear hyg
        go_wp2_with fail
        go_region_with (first
          | (go_at_call 33; refine KT.out.mono ?_; rintro e w3 ⟨rfl, hb3⟩; (have cg3 := ((show HashAt wr.drew w.heap.size G from hS.out.hA).on hb3).row HG.out); (have BE := Lib.hid (hS.out.below.drew.trans (hb3.mono (show w.heap.size ≤ wr.drew.heap.size from hS.out.below.size))))))
        all_goals
          go_wp2_with fail
          try rw [Exit.noGoto_ret]
          try rw [Exit.noGoto_normal]
          try go_wp2_with fail
          go_ret
          exact ⟨by rw [HC2.out]; rfl, BE.out⟩
end Go.Proofs.YtebeacejlkiglaaDoor
namespace Go.Proofs.YtebeacejlkiglaaDoor
open Go.RowKit
set_option maxRecDepth 100000

theorem kn_list (w : World) : RdL ((mk1 (mk1 w 97) 98).alloc (.cells #[.slice (some ⟨w.heap.size, 0, none⟩) 1 1, .slice (some ⟨(mk1 w 97).heap.size, 0, none⟩) 1 1] 42)) (.slice (some ⟨(mk1 (mk1 w 97) 98).heap.size, 0, none⟩) 2 2) knL [] ∧ Below w.heap.size w ((mk1 (mk1 w 97) 98).alloc (.cells #[.slice (some ⟨w.heap.size, 0, none⟩) 1 1, .slice (some ⟨(mk1 w 97).heap.size, 0, none⟩) 1 1] 42)) := by
  have b1 := mk1_below w 97
  have b2 := mk1_below (mk1 w 97) 98
  have h1 := ((mk1_rd w 97).rd).on b2
  have h2 := (mk1_rd (mk1 w 97) 98).rd
  refine ⟨two_rdl h1 h2, (b1.trans (b2.mono b1.size)).alloc (by have := b1.size; have := b2.size; omega) _⟩
theorem knL_bytes : ∀ b ∈ knL, Bytes b := by
  intro b hb x hx
  simp only [knL, List.mem_cons, List.not_mem_nil, or_false] at hb
  rcases hb with rfl | rfl <;> simp at hx <;> omega
theorem knL_each (i : Nat) : (knL.getD i []).length ≤ 1000000 := by
  rcases i with _ | _ | i <;> simp [knL]

set_option maxHeartbeats 8000000 in
theorem knows_any {w : World} (hT : Tbl w) : Calls Tryd.prog 8 #[] w fun e w' => e = .returned (.bool true) ∧ Below w.heap.size w w' := by
  have HT := Lib.hid hT
  have cm1 := conv_mark w 97
  have cm2 := conv_mark (mk1 w 97) 98
  obtain ⟨hl3, hb3⟩ := kn_list w
  have KR : Hid (Calls Tryd.prog 12 #[.slice (some ⟨(mk1 (mk1 w 97) 98).heap.size, 0, none⟩) 2 2] ((mk1 (mk1 w 97) 98).alloc (.cells #[.slice (some ⟨w.heap.size, 0, none⟩) 1 1, .slice (some ⟨(mk1 w 97).heap.size, 0, none⟩) 1 1] 42)) _) := Root_any hl3 knL_bytes (by decide) knL_each (hT.on hb3 hT.pos)
  have B3 := Lib.hid hb3
  have kl := rtL_len knL
  have kb := rtL_bytes knL
  have k0 := Lib.hid kn_0
  have ky := Lib.hid kn_yes
  have kno := Lib.hid kn_no
  obtain ⟨R, hR⟩ : ∃ R, rtL knL = R := ⟨_, rfl⟩
  rw [hR] at kl kb k0 ky kno KR
  have lR := hc_len R
  clear hT hl3 hb3 hR
  go_enter Tryd.func8, Tryd.ntmps8
  go_wp2_with fail
  refine KR.out.mono ?_
  rintro e w4 ⟨rfl, hb4⟩
  have B4 := Lib.hid (B3.out.trans (hb4.mono B3.out.size))
  have h0 := HashAt.new w4 zero32
  have ct := h0.there zero32_len
  have HR5 := Lib.hid (h0.put zero32_len kl)
  have B5 : Hid (Below w.heap.size w ((w4.alloc (.cells (hc zero32).toArray 36)).setCells w4.heap.size 0 (hc R))) := Lib.hid (below_setCells' _ B4.out.size _ _ (B4.out.alloc B4.out.size _))
  clear hb4 h0 KR cm1 cm2
  have cm1 := conv_mark ((w4.alloc (.cells (hc zero32).toArray 36)).setCells w4.heap.size 0 (hc R)) 97
  have cm2 := conv_mark (mk1 ((w4.alloc (.cells (hc zero32).toArray 36)).setCells w4.heap.size 0 (hc R)) 97) 98
  go_wp2_with fail
  clear cm1 cm2
  generalize ((w4.alloc (.cells (hc zero32).toArray 36)).setCells w4.heap.size 0 (hc R)) = w5 at *
  obtain ⟨hl6, hb6⟩ := kn_list w5
  have B6 := Lib.hid (B5.out.trans (hb6.mono B5.out.size))
  have R6 := Lib.hid (HR5.out.on hb6)
  refine (show Calls Tryd.prog 10 #[.int .i64 1, .slice (some ⟨(mk1 (mk1 w5 97) 98).heap.size, 0, none⟩) 2 2] ((mk1 (mk1 w5 97) 98).alloc (.cells #[.slice (some ⟨w5.heap.size, 0, none⟩) 1 1, .slice (some ⟨(mk1 w5 97).heap.size, 0, none⟩) 1 1] 42)) _ from Prove_yes (p0 := 1) (by decide) hl6 knL_bytes (by decide) knL_each (HT.out.on B6.out HT.out.pos)).mono ?_
  clear hl6 hb6
  rintro e w7 ⟨q7, k7, rfl, hs7⟩
  have hs7' : HsS ((mk1 (mk1 w5 97) 98).alloc (.cells #[.slice (some ⟨w5.heap.size, 0, none⟩) 1 1, .slice (some ⟨(mk1 w5 97).heap.size, 0, none⟩) 1 1] 42)) w7 (.slice q7 1 k7) knS := by have h := hs7; rw [show (pth 17 ((1 : Nat)) (lvN knL knL.length)).length = 1 from knS_len] at h; exact h
  have e7 : Value.tuple #[.agg #[.int .i64 ((1 : Nat) : Int), .int .i64 (knL.length : Int), .slice q7 (pth 17 1 (lvN knL knL.length)).length k7], .int .i64 0] = Value.tuple #[.agg #[.int .i64 1, .int .i64 2, .slice q7 1 k7], .int .i64 0] := by rw [show (pth 17 1 (lvN knL knL.length)).length = 1 from knS_len]; rfl
  rw [e7]
  clear e7 hs7
  have B7 := Lib.hid (B6.out.trans (hs7'.below.mono B6.out.size))
  have R7 := Lib.hid (R6.out.on hs7'.below)
  have rd7 := hs7'.rd
  have RD7 : Hid (RdHs w7 q7 knS) := rd7.2.1
  have hk7 : knS.length ≤ k7 := by have := rd7.2.2.1; rw [knS_len]; omega
  have hkm : k7 ≤ maxLen := rd7.2.2.2
  clear rd7 hs7'
  have b8 : Below w7.heap.size w7 (w7.alloc (.cells #[.int .i64 1, .int .i64 2, .slice q7 1 k7] 28)) := (Below.refl _ _).alloc (Nat.le_refl _) _
  have K8 : Hid (HashAt (w7.alloc (.cells #[.int .i64 1, .int .i64 2, .slice q7 1 k7] 28)).drew w4.heap.size R ∧ (w7.alloc (.cells #[.int .i64 1, .int .i64 2, .slice q7 1 k7] 28)).drew.heap[w7.heap.size]? = some (.cells #[.int .i64 1, .int .i64 2, .slice q7 1 k7] 28 (0, 0))) := Lib.hid ⟨R7.out.on b8.drew, heap_alloc_new w7 _⟩
  have B8 : Hid (Below w.heap.size w (w7.alloc (.cells #[.int .i64 1, .int .i64 2, .slice q7 1 k7] 28)).drew) := Lib.hid (B7.out.trans (b8.mono B7.out.size)).drew
  have RD8 : Hid (RdHs (w7.alloc (.cells #[.int .i64 1, .int .i64 2, .slice q7 1 k7] 28)).drew q7 knS) := RD7.out.on (fun i hi => (knS_ok.get i hi).1) b8.drew
  have HOK := Lib.hid knS_ok
  clear b8 R7 B7 RD7 R6 B6 B5 HR5 B4 B3
  go_wp2_with fail
  refine wp_region_held_drew (S := fun W => HashAt W w4.heap.size R ∧ W.heap[w7.heap.size]? = some (.cells #[.int .i64 1, .int .i64 2, .slice q7 1 k7] 28 (0, 0))) (by kernel_rfl) (K8.out) (fun h0 => ?_)
  have K9 := K8
  have B9 := B8
  have RD9 := RD8
  clear K8 B8 RD8
  generalize (w7.alloc (.cells #[.int .i64 1, .int .i64 2, .slice q7 1 k7] 28)).drew = w9 at *
  refine wpAnyH_take (i := 0) (v := ?_) (by rw [List.getElem?_toArray]; rfl) (by kernel_rfl) (by kernel_rfl) (by kernel_rfl) (by exact fun _ _ _ h => h) (Or.inl ⟨by rfl, ?_⟩) h0 ?_
  rotate_left
  · intro W hW
    go_simp
    all_goals with_reducible rfl
  try simp only [Act.put, List.setIfInBounds_toArray, List.set_cons_zero, List.set_cons_succ]
  refine wpAnyH_ready (rs := [1]) (by kernel_rfl) (by simp) ?_
  refine AllReadyH.cons (by rw [List.getElem?_toArray]; rfl) (fun K hK => ?_) AllReadyH.nil
  rw [if_pos (by rfl)]
  go_wp2_with fail
  refine (num_any 0 w9).mono ?_
  rintro e wx ⟨rfl, hwx⟩
  obtain rfl := hwx.symm
  clear hwx
  go_wp2_with fail
  refine hK.out _ _ (h0) (fun hn => ?_)
  clear hK K
  try simp only [Act.put, List.setIfInBounds_toArray, List.set_cons_zero, List.set_cons_succ]
  refine wpAnyH_take (i := 2) (v := ?_) (by rw [List.getElem?_toArray]; rfl) (by kernel_rfl) (by kernel_rfl) (by kernel_rfl) (by exact fun _ _ _ h => h) (Or.inl ⟨by rfl, ?_⟩) hn ?_
  rotate_left
  · intro W hW
    go_simp
    all_goals with_reducible rfl
  try simp only [Act.put, List.setIfInBounds_toArray, List.set_cons_zero, List.set_cons_succ]
  refine wpAnyH_take (i := 3) (v := ?_) (by rw [List.getElem?_toArray]; rfl) (by kernel_rfl) (by kernel_rfl) (by kernel_rfl) (by exact fun _ _ _ h => h) (Or.inl ⟨by rfl, ?_⟩) hn ?_
  rotate_left
  · intro W hW
    go_simp
    all_goals with_reducible rfl
  try simp only [Act.put, List.setIfInBounds_toArray, List.set_cons_zero, List.set_cons_succ]
  refine wpAnyH_take (i := 4) (v := ?_) (by rw [List.getElem?_toArray]; rfl) (by kernel_rfl) (by kernel_rfl) (by kernel_rfl) (by exact fun _ _ _ h => h) (Or.inl ⟨by rfl, ?_⟩) hn ?_
  rotate_left
  · intro W hW
    go_simp
    all_goals with_reducible rfl
  try simp only [Act.put, List.setIfInBounds_toArray, List.set_cons_zero, List.set_cons_succ]
  refine wpAnyH_take (i := 5) (v := ?_) (by rw [List.getElem?_toArray]; rfl) (by kernel_rfl) (by kernel_rfl) (by kernel_rfl) (by exact fun _ _ _ h => h) (Or.inl ⟨by rfl, ?_⟩) hn ?_
  rotate_left
  · intro W hW
    have c0 := (Joins.cell_of_block hW.2 0).trans (rfl : _ = some _)
    have c1 := (Joins.cell_of_block hW.2 1).trans (rfl : _ = some _)
    have c2 := (Joins.cell_of_block hW.2 2).trans (rfl : _ = some _)
    go_simp
    all_goals with_reducible rfl
  try simp only [Act.put, List.setIfInBounds_toArray, List.set_cons_zero, List.set_cons_succ]
  refine wpAnyH_take (i := 6) (v := ?_) (by rw [List.getElem?_toArray]; rfl) (by kernel_rfl) (by kernel_rfl) (by kernel_rfl) (by exact fun _ _ _ h => h) (Or.inl ⟨by rfl, ?_⟩) hn ?_
  rotate_left
  · intro W hW
    go_simp
    all_goals with_reducible rfl
  try simp only [Act.put, List.setIfInBounds_toArray, List.set_cons_zero, List.set_cons_succ]
  refine wpAnyH_take (i := 7) (v := ?_) (by rw [List.getElem?_toArray]; rfl) (by kernel_rfl) (by kernel_rfl) (by kernel_rfl) (by exact fun _ _ _ h => h) (Or.inl ⟨by rfl, ?_⟩) hn ?_
  rotate_left
  · intro W hW
    go_simp
    all_goals with_reducible rfl
  try simp only [Act.put, List.setIfInBounds_toArray, List.set_cons_zero, List.set_cons_succ]
  refine wpAnyH_take (i := 8) (v := ?_) (by rw [List.getElem?_toArray]; rfl) (by kernel_rfl) (by kernel_rfl) (by kernel_rfl) (by exact fun _ _ _ h => h) (Or.inl ⟨by rfl, ?_⟩) hn ?_
  rotate_left
  · intro W hW
    go_simp
    all_goals with_reducible rfl
  try simp only [Act.put, List.setIfInBounds_toArray, List.set_cons_zero, List.set_cons_succ]
  refine wpAnyH_take (i := 9) (v := ?_) (by rw [List.getElem?_toArray]; rfl) (by kernel_rfl) (by kernel_rfl) (by kernel_rfl) (by exact fun _ _ _ h => h) (Or.inl ⟨by rfl, ?_⟩) hn ?_
  rotate_left
  · intro W hW
    go_simp
    all_goals with_reducible rfl
  try simp only [Act.put, List.setIfInBounds_toArray, List.set_cons_zero, List.set_cons_succ]
  refine wpAnyH_take (i := 10) (v := ?_) (by rw [List.getElem?_toArray]; rfl) (by kernel_rfl) (by kernel_rfl) (by kernel_rfl) (by exact fun _ _ _ h => h) (Or.inl ⟨by rfl, ?_⟩) hn ?_
  rotate_left
  · intro W hW
    have cc := hW.1.row kl
    go_simp
    all_goals with_reducible rfl
  try simp only [Act.put, List.setIfInBounds_toArray, List.set_cons_zero, List.set_cons_succ]
  refine wpAnyH_take (i := 13) (v := ?_) (by rw [List.getElem?_toArray]; rfl) (by kernel_rfl) (by kernel_rfl) (by kernel_rfl) (by exact fun _ _ _ h => h) (Or.inl ⟨by rfl, ?_⟩) hn ?_
  rotate_left
  · intro W hW
    have c0 := (Joins.cell_of_block hW.2 0).trans (rfl : _ = some _)
    have c1 := (Joins.cell_of_block hW.2 1).trans (rfl : _ = some _)
    have c2 := (Joins.cell_of_block hW.2 2).trans (rfl : _ = some _)
    go_simp
    all_goals with_reducible rfl
  try simp only [Act.put, List.setIfInBounds_toArray, List.set_cons_zero, List.set_cons_succ]
  refine wpAnyH_ready (rs := [11]) (by kernel_rfl) (by simp) ?_
  refine AllReadyH.cons (by rw [List.getElem?_toArray]; rfl) (fun K hK => ?_) AllReadyH.nil
  rw [if_pos (by rfl)]
  have b0 : Below w9.heap.size w9 (w9.alloc (.cells #[.int .u8 98] 5)) := (Below.refl _ _).alloc (Nat.le_refl _) _
  have K0 : Hid (HashAt (w9.alloc (.cells #[.int .u8 98] 5)) w4.heap.size R ∧ (w9.alloc (.cells #[.int .u8 98] 5)).heap[w7.heap.size]? = some (.cells #[.int .i64 1, .int .i64 2, .slice q7 1 k7] 28 (0, 0))) := Lib.hid ⟨K9.out.1.on b0, blk_onB2 K9.out.2 b0⟩
  clear b0
  go_wp2_with fail
  refine hK.out _ _ (K0.out) (fun hb => ?_)
  clear hK K
  try simp only [Act.put, List.setIfInBounds_toArray, List.set_cons_zero, List.set_cons_succ]
  refine wpAnyH_ready (rs := [12]) (by kernel_rfl) (by simp) ?_
  refine AllReadyH.cons (by rw [List.getElem?_toArray]; rfl) (fun K hK => ?_) AllReadyH.nil
  rw [if_pos (by rfl)]
  have cm := conv_mark w9 98
  have bb := mk1_below w9 98
  have K11 : Hid (HashAt (mk1 w9 98) w4.heap.size R ∧ (mk1 w9 98).heap[w7.heap.size]? = some (.cells #[.int .i64 1, .int .i64 2, .slice q7 1 k7] 28 (0, 0))) := Lib.hid ⟨K9.out.1.on bb, blk_onB2 K9.out.2 bb⟩
  have B11 := Lib.hid (B9.out.trans (bb.mono B9.out.size))
  have RD11 : Hid (RdHs (mk1 w9 98) q7 knS) := RD9.out.on (fun i hi => (HOK.out.get i hi).1) bb
  have RR : Hid (Rd (mk1 w9 98) (.slice (some ⟨w9.heap.size, 0, none⟩) 1 1) [98]) := (mk1_rd w9 98).rd
  clear K0
  go_wp2_with fail
  refine hK.out _ _ (K11.out) (fun hc1 => ?_)
  clear hK K
  try simp only [Act.put, List.setIfInBounds_toArray, List.set_cons_zero, List.set_cons_succ]
  clear cm bb K9 B9 RD9
  generalize (mk1 w9 98) = w11 at *
  have KC : Hid (Calls Tryd.prog 18 #[.agg (hc R).toArray, .slice (some ⟨w9.heap.size, 0, none⟩) 1 1, .agg #[.int .i64 1, .int .i64 2, .slice q7 1 k7]] w11 fun e w' => e = .returned (.int .i64 (ckR 1 2 knS [98] R)) ∧ Below w11.heap.size w11 w') := by
    have h := Check_any (w := w11) (P := 1) (C := 2) (q := q7) (k := k7) (Ss := knS) (G := R) kl RD11.out (fun i hi => HOK.out.get i hi) (by rw [knS_len]; decide) RR.out (by intro x hx; simp at hx; omega) (by simp) hk7 hkm (HT.out.on B11.out HT.out.pos)
    rw [knS_len] at h
    exact h
  refine wpAnyH_ready (rs := [14]) (by kernel_rfl) (by simp) ?_
  refine AllReadyH.cons (by rw [List.getElem?_toArray]; rfl) (fun K hK => ?_) AllReadyH.nil
  rw [if_pos (by rfl)]
  go_wp2_with fail
  refine KC.out.mono ?_
  rintro e w13 ⟨rfl, bb⟩
  rw [ky.out]
  have K13 : Hid (HashAt w13 w4.heap.size R ∧ w13.heap[w7.heap.size]? = some (.cells #[.int .i64 1, .int .i64 2, .slice q7 1 k7] 28 (0, 0))) := Lib.hid ⟨K11.out.1.on bb, blk_onB2 K11.out.2 bb⟩
  have B13 := Lib.hid (B11.out.trans (bb.mono B11.out.size))
  have RD13 : Hid (RdHs w13 q7 knS) := RD11.out.on (fun i hi => (HOK.out.get i hi).1) bb
  clear bb KC RR K11 B11 RD11
  go_wp2_with fail
  refine hK.out _ _ (K13.out) (fun hk => ?_)
  clear hK K
  try simp only [Act.put, List.setIfInBounds_toArray, List.set_cons_zero, List.set_cons_succ]
  refine wpAnyH_ready (rs := [15]) (by kernel_rfl) (by simp) ?_
  refine AllReadyH.cons (by rw [List.getElem?_toArray]; rfl) (fun K hK => ?_) AllReadyH.nil
  rw [if_pos (by rfl)]
  go_wp2_with fail
  refine (num_any 0 w13).mono ?_
  rintro e wx ⟨rfl, hwx⟩
  obtain rfl := hwx.symm
  clear hwx
  go_wp2_with fail
  refine hK.out _ _ (hk) (fun hn => ?_)
  clear hK K
  try simp only [Act.put, List.setIfInBounds_toArray, List.set_cons_zero, List.set_cons_succ]
  refine wpAnyH_take (i := 16) (v := ?_) (by rw [List.getElem?_toArray]; rfl) (by kernel_rfl) (by kernel_rfl) (by kernel_rfl) (by exact fun _ _ _ h => h) (Or.inl ⟨by rfl, ?_⟩) hn ?_
  rotate_left
  · intro W hW
    go_simp
    all_goals with_reducible rfl
  try simp only [Act.put, List.setIfInBounds_toArray, List.set_cons_zero, List.set_cons_succ]
  refine wpAnyH_take (i := 17) (v := ?_) (by rw [List.getElem?_toArray]; rfl) (by kernel_rfl) (by kernel_rfl) (by kernel_rfl) (by exact fun _ _ _ h => h) (Or.inl ⟨by rfl, ?_⟩) hn ?_
  rotate_left
  · intro W hW
    go_simp
    all_goals with_reducible rfl
  try simp only [Act.put, List.setIfInBounds_toArray, List.set_cons_zero, List.set_cons_succ]
  refine wpAnyH_take (i := 18) (v := ?_) (by rw [List.getElem?_toArray]; rfl) (by kernel_rfl) (by kernel_rfl) (by kernel_rfl) (by exact fun _ _ _ h => h) (Or.inl ⟨by rfl, ?_⟩) hn ?_
  rotate_left
  · intro W hW
    go_simp
    all_goals with_reducible rfl
  try simp only [Act.put, List.setIfInBounds_toArray, List.set_cons_zero, List.set_cons_succ]
  refine wpAnyH_take (i := 19) (v := ?_) (by rw [List.getElem?_toArray]; rfl) (by kernel_rfl) (by kernel_rfl) (by kernel_rfl) (by exact fun _ _ _ h => h) (Or.inl ⟨by rfl, ?_⟩) hn ?_
  rotate_left
  · intro W hW
    have cc := hW.1.row kl
    go_simp
    all_goals with_reducible rfl
  try simp only [Act.put, List.setIfInBounds_toArray, List.set_cons_zero, List.set_cons_succ]
  refine wpAnyH_take (i := 22) (v := ?_) (by rw [List.getElem?_toArray]; rfl) (by kernel_rfl) (by kernel_rfl) (by kernel_rfl) (by exact fun _ _ _ h => h) (Or.inl ⟨by rfl, ?_⟩) hn ?_
  rotate_left
  · intro W hW
    have c0 := (Joins.cell_of_block hW.2 0).trans (rfl : _ = some _)
    have c1 := (Joins.cell_of_block hW.2 1).trans (rfl : _ = some _)
    have c2 := (Joins.cell_of_block hW.2 2).trans (rfl : _ = some _)
    go_simp
    all_goals with_reducible rfl
  try simp only [Act.put, List.setIfInBounds_toArray, List.set_cons_zero, List.set_cons_succ]
  refine wpAnyH_ready (rs := [20]) (by kernel_rfl) (by simp) ?_
  refine AllReadyH.cons (by rw [List.getElem?_toArray]; rfl) (fun K hK => ?_) AllReadyH.nil
  rw [if_pos (by rfl)]
  have b0 : Below w13.heap.size w13 (w13.alloc (.cells #[.int .u8 97] 5)) := (Below.refl _ _).alloc (Nat.le_refl _) _
  have K0 : Hid (HashAt (w13.alloc (.cells #[.int .u8 97] 5)) w4.heap.size R ∧ (w13.alloc (.cells #[.int .u8 97] 5)).heap[w7.heap.size]? = some (.cells #[.int .i64 1, .int .i64 2, .slice q7 1 k7] 28 (0, 0))) := Lib.hid ⟨K13.out.1.on b0, blk_onB2 K13.out.2 b0⟩
  clear b0
  go_wp2_with fail
  refine hK.out _ _ (K0.out) (fun hb => ?_)
  clear hK K
  try simp only [Act.put, List.setIfInBounds_toArray, List.set_cons_zero, List.set_cons_succ]
  refine wpAnyH_ready (rs := [21]) (by kernel_rfl) (by simp) ?_
  refine AllReadyH.cons (by rw [List.getElem?_toArray]; rfl) (fun K hK => ?_) AllReadyH.nil
  rw [if_pos (by rfl)]
  have cm := conv_mark w13 97
  have bb := mk1_below w13 97
  have K15 : Hid (HashAt (mk1 w13 97) w4.heap.size R ∧ (mk1 w13 97).heap[w7.heap.size]? = some (.cells #[.int .i64 1, .int .i64 2, .slice q7 1 k7] 28 (0, 0))) := Lib.hid ⟨K13.out.1.on bb, blk_onB2 K13.out.2 bb⟩
  have B15 := Lib.hid (B13.out.trans (bb.mono B13.out.size))
  have RD15 : Hid (RdHs (mk1 w13 97) q7 knS) := RD13.out.on (fun i hi => (HOK.out.get i hi).1) bb
  have RR : Hid (Rd (mk1 w13 97) (.slice (some ⟨w13.heap.size, 0, none⟩) 1 1) [97]) := (mk1_rd w13 97).rd
  clear K0
  go_wp2_with fail
  refine hK.out _ _ (K15.out) (fun hc1 => ?_)
  clear hK K
  try simp only [Act.put, List.setIfInBounds_toArray, List.set_cons_zero, List.set_cons_succ]
  clear cm bb K13 B13 RD13
  generalize (mk1 w13 97) = w15 at *
  have KC : Hid (Calls Tryd.prog 18 #[.agg (hc R).toArray, .slice (some ⟨w13.heap.size, 0, none⟩) 1 1, .agg #[.int .i64 1, .int .i64 2, .slice q7 1 k7]] w15 fun e w' => e = .returned (.int .i64 (ckR 1 2 knS [97] R)) ∧ Below w15.heap.size w15 w') := by
    have h := Check_any (w := w15) (P := 1) (C := 2) (q := q7) (k := k7) (Ss := knS) (G := R) kl RD15.out (fun i hi => HOK.out.get i hi) (by rw [knS_len]; decide) RR.out (by intro x hx; simp at hx; omega) (by simp) hk7 hkm (HT.out.on B15.out HT.out.pos)
    rw [knS_len] at h
    exact h
  refine wpAnyH_ready (rs := [23]) (by kernel_rfl) (by simp) ?_
  refine AllReadyH.cons (by rw [List.getElem?_toArray]; rfl) (fun K hK => ?_) AllReadyH.nil
  rw [if_pos (by rfl)]
  go_wp2_with fail
  refine KC.out.mono ?_
  rintro e w17 ⟨rfl, bb⟩
  rw [kno.out]
  have K17 : Hid (HashAt w17 w4.heap.size R ∧ w17.heap[w7.heap.size]? = some (.cells #[.int .i64 1, .int .i64 2, .slice q7 1 k7] 28 (0, 0))) := Lib.hid ⟨K15.out.1.on bb, blk_onB2 K15.out.2 bb⟩
  have B17 := Lib.hid (B15.out.trans (bb.mono B15.out.size))
  have RD17 : Hid (RdHs w17 q7 knS) := RD15.out.on (fun i hi => (HOK.out.get i hi).1) bb
  clear bb KC RR K15 B15 RD15
  go_wp2_with fail
  refine hK.out _ _ (K17.out) (fun hk => ?_)
  clear hK K
  try simp only [Act.put, List.setIfInBounds_toArray, List.set_cons_zero, List.set_cons_succ]
  refine wpAnyH_ready (rs := [24]) (by kernel_rfl) (by simp) ?_
  refine AllReadyH.cons (by rw [List.getElem?_toArray]; rfl) (fun K hK => ?_) AllReadyH.nil
  rw [if_pos (by rfl)]
  go_wp2_with fail
  refine (num_any 22 w17).mono ?_
  rintro e wx ⟨rfl, hwx⟩
  obtain rfl := hwx.symm
  clear hwx
  go_wp2_with fail
  refine hK.out _ _ (hk) (fun hn => ?_)
  clear hK K
  try simp only [Act.put, List.setIfInBounds_toArray, List.set_cons_zero, List.set_cons_succ]
  refine wpAnyH_take (i := 25) (v := ?_) (by rw [List.getElem?_toArray]; rfl) (by kernel_rfl) (by kernel_rfl) (by kernel_rfl) (by exact fun _ _ _ h => h) (Or.inl ⟨by rfl, ?_⟩) hn ?_
  rotate_left
  · intro W hW
    go_simp
    all_goals with_reducible rfl
  try simp only [Act.put, List.setIfInBounds_toArray, List.set_cons_zero, List.set_cons_succ]
  refine wpAnyH_take (i := 26) (v := ?_) (by rw [List.getElem?_toArray]; rfl) (by kernel_rfl) (by kernel_rfl) (by kernel_rfl) (by exact fun _ _ _ h => h) (Or.inl ⟨by rfl, ?_⟩) hn ?_
  rotate_left
  · intro W hW
    go_simp
    all_goals with_reducible rfl
  try simp only [Act.put, List.setIfInBounds_toArray, List.set_cons_zero, List.set_cons_succ]
  refine wpAnyH_take (i := 27) (v := ?_) (by rw [List.getElem?_toArray]; rfl) (by kernel_rfl) (by kernel_rfl) (by kernel_rfl) (by exact fun _ _ _ h => h) (Or.inl ⟨by rfl, ?_⟩) hn ?_
  rotate_left
  · intro W hW
    go_simp
    all_goals with_reducible rfl
  try simp only [Act.put, List.setIfInBounds_toArray, List.set_cons_zero, List.set_cons_succ]
  refine wpAnyH_take (i := 28) (v := ?_) (by rw [List.getElem?_toArray]; rfl) (by kernel_rfl) (by kernel_rfl) (by kernel_rfl) (by exact fun _ _ _ h => h) (Or.inl ⟨by rfl, ?_⟩) hn ?_
  rotate_left
  · intro W hW
    have cc := hW.1.row kl
    go_simp
    all_goals with_reducible rfl
  try simp only [Act.put, List.setIfInBounds_toArray, List.set_cons_zero, List.set_cons_succ]
  refine wpAnyH_ready (rs := [29]) (by kernel_rfl) (by simp) ?_
  refine AllReadyH.cons (by rw [List.getElem?_toArray]; rfl) (fun K hK => ?_) AllReadyH.nil
  rw [if_pos (by rfl)]
  go_wp2_with fail
  refine (Root_any (w := w17) (v := .slice none 0 0) (L := []) ⟨none, 0, rfl, .inl rfl⟩ (by intro b hb; cases hb) (by decide) (by intro i; simp) (HT.out.on B17.out HT.out.pos)).mono ?_
  rintro e w19 ⟨rfl, bb⟩
  have K19 : Hid (HashAt w19 w4.heap.size R ∧ w19.heap[w7.heap.size]? = some (.cells #[.int .i64 1, .int .i64 2, .slice q7 1 k7] 28 (0, 0))) := Lib.hid ⟨K17.out.1.on bb, blk_onB2 K17.out.2 bb⟩
  have B19 := Lib.hid (B17.out.trans (bb.mono B17.out.size))
  have RD19 : Hid (RdHs w19 q7 knS) := RD17.out.on (fun i hi => (HOK.out.get i hi).1) bb
  have l0 := rtL_len []
  obtain ⟨R0, hR0⟩ : ∃ R0, rtL [] = R0 := ⟨_, rfl⟩
  rw [hR0] at l0 ⊢
  have dg : (R == R0) = false := by rw [← hR0]; exact k0.out
  have lR0 := hc_len R0
  clear bb K17 B17 RD17 hR0
  go_wp2_with fail
  refine hK.out _ _ (K19.out) (fun hr => ?_)
  clear hK K
  try simp only [Act.put, List.setIfInBounds_toArray, List.set_cons_zero, List.set_cons_succ]
  refine wpAnyH_take (i := 30) (v := ?_) (by rw [List.getElem?_toArray]; rfl) (by kernel_rfl) (by kernel_rfl) (by kernel_rfl) (by exact fun _ _ _ h => h) (Or.inl ⟨by rfl, ?_⟩) hr ?_
  rotate_left
  · intro W hW
    go_simp
    all_goals with_reducible rfl
  try simp only [Act.put, List.setIfInBounds_toArray, List.set_cons_zero, List.set_cons_succ]
  refine wpAnyH_take (i := 31) (v := ?_) (by rw [List.getElem?_toArray]; rfl) (by kernel_rfl) (by kernel_rfl) (by kernel_rfl) (by exact fun _ _ _ h => h) (Or.inl ⟨by rfl, ?_⟩) hr ?_
  rotate_left
  · intro W hW
    go_simp
    all_goals with_reducible rfl
  try simp only [Act.put, List.setIfInBounds_toArray, List.set_cons_zero, List.set_cons_succ]
  refine wpAnyH_take (i := 32) (v := ?_) (by rw [List.getElem?_toArray]; rfl) (by kernel_rfl) (by kernel_rfl) (by kernel_rfl) (by exact fun _ _ _ h => h) (Or.inl ⟨by rfl, ?_⟩) hr ?_
  rotate_left
  · intro W hW
    go_simp
    all_goals with_reducible rfl
  try simp only [Act.put, List.setIfInBounds_toArray, List.set_cons_zero]
  refine wpAnyH_done (by kernel_rfl) ?_ _
  have BE := Lib.hid B19.out
  clear K19 RD19 hr
  go_wp2_with fail
  go_ret
  exact ⟨rfl, BE.out⟩
end Go.Proofs.YtebeacejlkiglaaDoor
namespace Go.Proofs.YtebeacejlkiglaaDoor
open Go.RowKit
set_option maxRecDepth 100000

/-- A slice of the call's own: xs, and behind them in its room 55 and 56. -/
structure LentAt (w : World) (v : Value) (xs : List Int) (B : Nat) : Prop where
  own : ∃ g c, v = .slice (some ⟨g, 0, none⟩) xs.length c ∧ xs.length + 2 ≤ c ∧ B ≤ g ∧ w.ownsRow 0 5 1 (.slice (some ⟨g, 0, none⟩) (xs.length + 2) c) (xs.length + 2) (bc (xs ++ [55, 56]))

set_option maxHeartbeats 2000000 in
theorem Lent_any {w : World} {v : Value} {xs : List Int} (h : Rd w v xs) (hl : xs.length ≤ 140737488355000) :
    Calls Tryd.prog 16 #[v] w fun e w' => ∃ u, e = .returned u ∧ LentAt w' u xs w.heap.size ∧ Below w.heap.size w w' := by
  obtain ⟨i0, hi, hz0, hz1, hz2⟩ := info_parts Tryd.infoU8
  obtain ⟨q, c, rfl⟩ := h.len
  have HR := Lib.hid h
  clear h
  replace hi := Lib.hid hi
  replace hz0 := Lib.hid hz0
  replace hz1 := Lib.hid hz1
  replace hz2 := Lib.hid hz2
  go_enter Tryd.func16, Tryd.ntmps16
  go_wp2_with (at_builtin; refine wpList_append_row rfl _ _ rfl Tryd.underlying42 hi.out hz0.out hz1.out hz2.out rfl (own_empty w 5 1) ((HR.out.alloc _).src (P := Tryd.prog) Tryd.underlying42) ?b1 ?b2 ?_)
  case b1 => unfold maxLen; omega
  (try case b2 => omega)
  intro q2 k2 w2 own2 grow2 fr2
  have H2 := Lib.hid own2
  have B2 := Lib.hid (show Below w.heap.size w w2 from ((Below.refl _ _).alloc (Nat.le_refl _) (.cells #[] 5)).grown grow2 (by simp) (by intro g hg; simp [Value.ownBlock] at hg; omega))
  have F2 : Hid (∀ g, (Value.slice q2 xs.length k2).ownBlock = some g → w.heap.size ≤ g) := fun g hg => by
    rcases fr2 with e | e
    · rw [e] at hg; simp [Value.ownBlock] at hg; omega
    · rw [e] at hg; simp at hg; omega
  clear own2 grow2 fr2
  try simp only [Nat.zero_add, List.nil_append] at H2
  go_wp2_with (at_builtin; refine wpList_append_row rfl _ _ rfl Tryd.underlying42 hi.out hz0.out hz1.out hz2.out rfl (own_on H2.out ((Below.refl _ _).alloc (Nat.le_refl _) (.cells #[.int .u8 55, .int .u8 56] 5))) (news := [.int .u8 55, .int .u8 56]) (m := 2) ?rd ?b3 ?b4 ?_)
  case rd =>
    refine Src.ofSlice _ Tryd.underlying42 _ _ _ _ rfl (fun j u hu => ?_) (fun u hu => ?_)
    · rw [addr_add, Nat.zero_add, Joins.cell_of_block (heap_alloc_new w2 _)]
      simpa using hu
    · simp at hu; rcases hu with rfl | rfl <;> rfl
  case b3 => unfold maxLen; omega
  (try case b4 => omega)
  intro q3 k3 w3 own3 grow3 fr3
  have B3 := Lib.hid (show Below w.heap.size w w3 from ((B2.out.alloc B2.out.size (.cells #[.int .u8 55, .int .u8 56] 5))).grown grow3 (by have := B2.out.size; simp; omega) (by
    intro g hg; exact F2.out g hg))
  have F3 : Hid (∀ g, (Value.slice q3 (xs.length + 2) k3).ownBlock = some g → w.heap.size ≤ g) := fun g hg => by
    rcases fr3 with e | e
    · rw [e] at hg; exact F2.out g hg
    · rw [e] at hg; have := B2.out.size; simp at hg; omega
  obtain ⟨g, rfl, hk3⟩ : ∃ g, q3 = some ⟨g, 0, none⟩ ∧ xs.length + 2 ≤ k3 := by
    rcases own3.2 with ⟨h0, _⟩ | ⟨g, cap, cur, h1, _, hg, hnc, hcm, hcs, htake⟩
    · simp at h0
    · simp only [Value.slice.injEq, true_and] at h1
      exact ⟨g, h1.1, by omega⟩
  have H3 : Hid (w3.ownsRow 0 5 1 (.slice (some ⟨g, 0, none⟩) (xs.length + 2) k3) (xs.length + 2) (bc (xs ++ [55, 56]))) := by rw [bc_append]; exact own3
  clear own3 grow3 fr3 B2 H2 F2
  go_wp2_with fail
  go_ret
  exact ⟨_, rfl, ⟨g, k3, rfl, hk3, F3.out g rfl, H3.out⟩, B3.out⟩

theorem old {w W : World} (hb : Below w.heap.size w W) {p : Addr} {v : Value} (hc : w.cell? p = some v) : W.cell? p = some v := by
  rw [hb.cell (World.block_lt_of_cell? w p hc)]; exact hc
theorem LentAt.on {w w' : World} {v : Value} {xs : List Int} {B : Nat} (h : LentAt w v xs B) (hb : Below w.heap.size w w') : LentAt w' v xs B := by
  obtain ⟨g, c, e, h1, h2, h3⟩ := h.own
  exact ⟨g, c, e, h1, h2, own_on h3 hb⟩
theorem LentAt.rdc {w : World} {v : Value} {xs : List Int} {B : Nat} (h : LentAt w v xs B) : RdC w v xs := by
  obtain ⟨g, c, rfl, h1, h2, h3⟩ := h.own
  have hr := rd_of_row (by simpa using h3 : w.ownsRow 0 5 1 (.slice (some ⟨g, 0, none⟩) (xs.length + 2) c) (xs.length + 2) (bc (xs ++ [55, 56])))
  obtain ⟨q', c', e, h0 | ⟨b, off, rfl, hc⟩⟩ := hr
  · simp at h0
  · simp only [Value.slice.injEq, Option.some.injEq, Addr.mk.injEq, and_true] at e
    obtain ⟨⟨rfl, rfl⟩, -, -⟩ := e
    refine ⟨_, c, rfl, by omega, .inr ⟨g, 0, rfl, fun i hi => ?_⟩⟩
    rw [hc i (by simp; omega)]
    simp [List.getD, List.getElem?_append_left hi]
theorem LentAt.tail {w : World} {v : Value} {xs : List Int} {B : Nat} (h : LentAt w v xs B) : ∃ g c, v = .slice (some ⟨g, 0, none⟩) xs.length c ∧ xs.length + 2 ≤ c ∧ w.cell? ⟨g, xs.length, none⟩ = some (.int .u8 55) ∧ w.cell? ⟨g, xs.length + 1, none⟩ = some (.int .u8 56) := by
  obtain ⟨g, c, rfl, h1, h2, h3⟩ := h.own
  have hr := rd_of_row (by simpa using h3 : w.ownsRow 0 5 1 (.slice (some ⟨g, 0, none⟩) (xs.length + 2) c) (xs.length + 2) (bc (xs ++ [55, 56])))
  obtain ⟨q', c', e, h0 | ⟨b, off, rfl, hc⟩⟩ := hr
  · simp at h0
  · simp only [Value.slice.injEq, Option.some.injEq, Addr.mk.injEq, and_true] at e
    obtain ⟨⟨rfl, rfl⟩, -, -⟩ := e
    have c5 := hc xs.length (by simp)
    have c6 := hc (xs.length + 1) (by simp)
    rw [Nat.zero_add] at c5 c6
    exact ⟨g, c, rfl, h1, by rw [c5]; simp [List.getD], by rw [c6]; simp [List.getD]⟩

set_option maxHeartbeats 4000000 in
theorem Stays_any {w : World} {u v : Value} {xs : List Int} {B : Nat} (hu : LentAt w u xs B) (hv : Rd w v xs) (hl : xs.length ≤ 140737488355000) :
    Calls Tryd.prog 20 #[u, v] w fun e w' => e = .returned (.bool true) ∧ Below w.heap.size w w' := by
  have hA := hu.rdc.rd
  have hL := hv
  obtain ⟨g, c, rfl, hc, h55, h56⟩ := hu.tail
  obtain ⟨q, cv, rfl⟩ := hv.len
  clear hu hv
  have k1 : IntKind.i64.wrap ((xs.length : Int) + 1) = (xs.length : Int) + 1 := IntWalk.i64_in _ (by omega)
  have e1 : ((xs.length : Int) + 1).toNat = xs.length + 1 := by omega
  have b0 : (0 : Int) ≤ (xs.length : Int) := by omega
  have b1 : (xs.length : Int) < (xs.length : Int) + 2 := by omega
  have b2 : (0 : Int) ≤ (xs.length : Int) + 1 := by omega
  have b3 : (xs.length : Int) + 1 < (xs.length : Int) + 2 := by omega
  have b4 : (xs.length : Int) ≤ (c : Int) := by omega
  have HA := Lib.hid hA
  have HL := Lib.hid hL
  have H5 := Lib.hid h55
  have H6 := Lib.hid h56
  clear hA hL h55 h56
  go_enter Tryd.func20, Tryd.ntmps20
  go_wp2_with fail
  refine wp_region_held_drew (S := fun W => Below w.heap.size w W) (by kernel_rfl) ((Below.refl _ _).drew) (fun h0 => ?_)
  refine wpAnyH_take (i := 0) (v := ?_) (by rw [List.getElem?_toArray]; rfl) (by kernel_rfl) (by kernel_rfl) (by kernel_rfl) (by exact fun _ _ _ h => h) (Or.inl ⟨by rfl, ?_⟩) h0 ?_
  rotate_left
  · intro W hW
    go_simp
    all_goals with_reducible rfl
  try simp only [Act.put, List.setIfInBounds_toArray, List.set_cons_zero, List.set_cons_succ]
  refine wpAnyH_take (i := 1) (v := ?_) (by rw [List.getElem?_toArray]; rfl) (by kernel_rfl) (by kernel_rfl) (by kernel_rfl) (by exact fun _ _ _ h => h) (Or.inl ⟨by rfl, ?_⟩) h0 ?_
  rotate_left
  · intro W hW
    go_simp
    all_goals with_reducible rfl
  try simp only [Act.put, List.setIfInBounds_toArray, List.set_cons_zero, List.set_cons_succ]
  refine wpAnyH_take (i := 2) (v := ?_) (by rw [List.getElem?_toArray]; rfl) (by kernel_rfl) (by kernel_rfl) (by kernel_rfl) (by exact fun _ _ _ h => h) (Or.inl ⟨by rfl, ?_⟩) h0 ?_
  rotate_left
  · intro W hW
    go_simp
    all_goals with_reducible rfl
  try simp only [Act.put, List.setIfInBounds_toArray, List.set_cons_zero, List.set_cons_succ]
  refine wpAnyH_take (i := 3) (v := ?_) (by rw [List.getElem?_toArray]; rfl) (by kernel_rfl) (by kernel_rfl) (by kernel_rfl) (by exact fun _ _ _ h => h) (Or.inl ⟨by rfl, ?_⟩) h0 ?_
  rotate_left
  · intro W hW
    go_simp
    all_goals with_reducible rfl
  try simp only [Act.put, List.setIfInBounds_toArray, List.set_cons_zero, List.set_cons_succ]
  refine wpAnyH_take (i := 4) (v := ?_) (by rw [List.getElem?_toArray]; rfl) (by kernel_rfl) (by kernel_rfl) (by kernel_rfl) (by exact fun _ _ _ h => h) (Or.inl ⟨by rfl, ?_⟩) h0 ?_
  rotate_left
  · intro W hW
    have ca := (HA.out.on hW).str (P := Tryd.prog) Tryd.underlying42 Tryd.underlying5 Tryd.underlying9
    go_simp
    all_goals with_reducible rfl
  try simp only [Act.put, List.setIfInBounds_toArray, List.set_cons_zero, List.set_cons_succ]
  refine wpAnyH_take (i := 5) (v := ?_) (by rw [List.getElem?_toArray]; rfl) (by kernel_rfl) (by kernel_rfl) (by kernel_rfl) (by exact fun _ _ _ h => h) (Or.inl ⟨by rfl, ?_⟩) h0 ?_
  rotate_left
  · intro W hW
    go_simp
    all_goals with_reducible rfl
  try simp only [Act.put, List.setIfInBounds_toArray, List.set_cons_zero, List.set_cons_succ]
  refine wpAnyH_take (i := 6) (v := ?_) (by rw [List.getElem?_toArray]; rfl) (by kernel_rfl) (by kernel_rfl) (by kernel_rfl) (by exact fun _ _ _ h => h) (Or.inl ⟨by rfl, ?_⟩) h0 ?_
  rotate_left
  · intro W hW
    have cl := (HL.out.on hW).str (P := Tryd.prog) Tryd.underlying42 Tryd.underlying5 Tryd.underlying9
    go_simp
    all_goals with_reducible rfl
  try simp only [Act.put, List.setIfInBounds_toArray, List.set_cons_zero, List.set_cons_succ]
  refine wpAnyH_take (i := 7) (v := ?_) (by rw [List.getElem?_toArray]; rfl) (by kernel_rfl) (by kernel_rfl) (by kernel_rfl) (by exact fun _ _ _ h => h) (Or.inl ⟨by rfl, ?_⟩) h0 ?_
  rotate_left
  · intro W hW
    go_simp
    all_goals with_reducible rfl
  try simp only [Act.put, List.setIfInBounds_toArray, List.set_cons_zero, List.set_cons_succ]
  refine wpAnyH_take (i := 8) (v := ?_) (by rw [List.getElem?_toArray]; rfl) (by kernel_rfl) (by kernel_rfl) (by kernel_rfl) (by exact fun _ _ _ h => h) (Or.inl ⟨by rfl, ?_⟩) h0 ?_
  rotate_left
  · intro W hW
    go_simp
    all_goals with_reducible rfl
  try simp only [Act.put, List.setIfInBounds_toArray, List.set_cons_zero, List.set_cons_succ]
  refine wpAnyH_take (i := 9) (v := ?_) (by rw [List.getElem?_toArray]; rfl) (by kernel_rfl) (by kernel_rfl) (by kernel_rfl) (by exact fun _ _ _ h => h) (Or.inl ⟨by rfl, ?_⟩) h0 ?_
  rotate_left
  · intro W hW
    go_simp
    all_goals with_reducible rfl
  try simp only [Act.put, List.setIfInBounds_toArray, List.set_cons_zero, List.set_cons_succ]
  refine wpAnyH_take (i := 10) (v := ?_) (by rw [List.getElem?_toArray]; rfl) (by kernel_rfl) (by kernel_rfl) (by kernel_rfl) (by exact fun _ _ _ h => h) (Or.inl ⟨by rfl, ?_⟩) h0 ?_
  rotate_left
  · intro W hW
    go_simp
    all_goals with_reducible rfl
  try simp only [Act.put, List.setIfInBounds_toArray, List.set_cons_zero, List.set_cons_succ]
  refine wpAnyH_take (i := 11) (v := ?_) (by rw [List.getElem?_toArray]; rfl) (by kernel_rfl) (by kernel_rfl) (by kernel_rfl) (by exact fun _ _ _ h => h) (Or.inl ⟨by rfl, ?_⟩) h0 ?_
  rotate_left
  · intro W hW
    go_simp
    all_goals with_reducible rfl
  try simp only [Act.put, List.setIfInBounds_toArray, List.set_cons_zero, List.set_cons_succ]
  refine wpAnyH_take (i := 12) (v := ?_) (by rw [List.getElem?_toArray]; rfl) (by kernel_rfl) (by kernel_rfl) (by kernel_rfl) (by exact fun _ _ _ h => h) (Or.inl ⟨by rfl, ?_⟩) h0 ?_
  rotate_left
  · intro W hW
    go_simp
    all_goals with_reducible rfl
  try simp only [Act.put, List.setIfInBounds_toArray, List.set_cons_zero, List.set_cons_succ]
  refine wpAnyH_take (i := 13) (v := ?_) (by rw [List.getElem?_toArray]; rfl) (by kernel_rfl) (by kernel_rfl) (by kernel_rfl) (by exact fun _ _ _ h => h) (Or.inl ⟨by rfl, ?_⟩) h0 ?_
  rotate_left
  · intro W hW
    have c5 := old hW H5.out
    go_simp
    all_goals with_reducible rfl
  try simp only [Act.put, List.setIfInBounds_toArray, List.set_cons_zero, List.set_cons_succ]
  refine wpAnyH_take (i := 14) (v := ?_) (by rw [List.getElem?_toArray]; rfl) (by kernel_rfl) (by kernel_rfl) (by kernel_rfl) (by exact fun _ _ _ h => h) (Or.inl ⟨by rfl, ?_⟩) h0 ?_
  rotate_left
  · intro W hW
    go_simp
    all_goals with_reducible rfl
  try simp only [Act.put, List.setIfInBounds_toArray, List.set_cons_zero, List.set_cons_succ]
  refine wpAnyH_take (i := 15) (v := ?_) (by rw [List.getElem?_toArray]; rfl) (by kernel_rfl) (by kernel_rfl) (by kernel_rfl) (by exact fun _ _ _ h => h) (Or.inl ⟨by rfl, ?_⟩) h0 ?_
  rotate_left
  · intro W hW
    go_simp
    all_goals with_reducible rfl
  try simp only [Act.put, List.setIfInBounds_toArray, List.set_cons_zero, List.set_cons_succ]
  refine wpAnyH_take (i := 16) (v := ?_) (by rw [List.getElem?_toArray]; rfl) (by kernel_rfl) (by kernel_rfl) (by kernel_rfl) (by exact fun _ _ _ h => h) (Or.inl ⟨by rfl, ?_⟩) h0 ?_
  rotate_left
  · intro W hW
    go_simp
    all_goals with_reducible rfl
  try simp only [Act.put, List.setIfInBounds_toArray, List.set_cons_zero, List.set_cons_succ]
  refine wpAnyH_take (i := 17) (v := ?_) (by rw [List.getElem?_toArray]; rfl) (by kernel_rfl) (by kernel_rfl) (by kernel_rfl) (by exact fun _ _ _ h => h) (Or.inl ⟨by rfl, ?_⟩) h0 ?_
  rotate_left
  · intro W hW
    go_simp
    all_goals with_reducible rfl
  try simp only [Act.put, List.setIfInBounds_toArray, List.set_cons_zero, List.set_cons_succ]
  refine wpAnyH_take (i := 18) (v := ?_) (by rw [List.getElem?_toArray]; rfl) (by kernel_rfl) (by kernel_rfl) (by kernel_rfl) (by exact fun _ _ _ h => h) (Or.inl ⟨by rfl, ?_⟩) h0 ?_
  rotate_left
  · intro W hW
    go_simp
    all_goals with_reducible rfl
  try simp only [Act.put, List.setIfInBounds_toArray, List.set_cons_zero, List.set_cons_succ]
  refine wpAnyH_take (i := 19) (v := ?_) (by rw [List.getElem?_toArray]; rfl) (by kernel_rfl) (by kernel_rfl) (by kernel_rfl) (by exact fun _ _ _ h => h) (Or.inl ⟨by rfl, ?_⟩) h0 ?_
  rotate_left
  · intro W hW
    go_simp
    all_goals with_reducible rfl
  try simp only [Act.put, List.setIfInBounds_toArray, List.set_cons_zero, List.set_cons_succ]
  refine wpAnyH_take (i := 20) (v := ?_) (by rw [List.getElem?_toArray]; rfl) (by kernel_rfl) (by kernel_rfl) (by kernel_rfl) (by exact fun _ _ _ h => h) (Or.inl ⟨by rfl, ?_⟩) h0 ?_
  rotate_left
  · intro W hW
    go_simp
    all_goals with_reducible rfl
  try simp only [Act.put, List.setIfInBounds_toArray, List.set_cons_zero, List.set_cons_succ]
  refine wpAnyH_take (i := 21) (v := ?_) (by rw [List.getElem?_toArray]; rfl) (by kernel_rfl) (by kernel_rfl) (by kernel_rfl) (by exact fun _ _ _ h => h) (Or.inl ⟨by rfl, ?_⟩) h0 ?_
  rotate_left
  · intro W hW
    go_simp
    all_goals with_reducible rfl
  try simp only [Act.put, List.setIfInBounds_toArray, List.set_cons_zero, List.set_cons_succ]
  refine wpAnyH_take (i := 22) (v := ?_) (by rw [List.getElem?_toArray]; rfl) (by kernel_rfl) (by kernel_rfl) (by kernel_rfl) (by exact fun _ _ _ h => h) (Or.inl ⟨by rfl, ?_⟩) h0 ?_
  rotate_left
  · intro W hW
    have c6 := old hW H6.out
    go_simp
    all_goals with_reducible rfl
  try simp only [Act.put, List.setIfInBounds_toArray, List.set_cons_zero, List.set_cons_succ]
  refine wpAnyH_take (i := 23) (v := ?_) (by rw [List.getElem?_toArray]; rfl) (by kernel_rfl) (by kernel_rfl) (by kernel_rfl) (by exact fun _ _ _ h => h) (Or.inl ⟨by rfl, ?_⟩) h0 ?_
  rotate_left
  · intro W hW
    go_simp
    all_goals with_reducible rfl
  try simp only [Act.put, List.setIfInBounds_toArray, List.set_cons_zero, List.set_cons_succ]
  refine wpAnyH_take (i := 24) (v := ?_) (by rw [List.getElem?_toArray]; rfl) (by kernel_rfl) (by kernel_rfl) (by kernel_rfl) (by exact fun _ _ _ h => h) (Or.inl ⟨by rfl, ?_⟩) h0 ?_
  rotate_left
  · intro W hW
    go_simp
    all_goals with_reducible rfl
  try simp only [Act.put, List.setIfInBounds_toArray, List.set_cons_zero, List.set_cons_succ]
  refine wpAnyH_take (i := 25) (v := ?_) (by rw [List.getElem?_toArray]; rfl) (by kernel_rfl) (by kernel_rfl) (by kernel_rfl) (by exact fun _ _ _ h => h) (Or.inl ⟨by rfl, ?_⟩) h0 ?_
  rotate_left
  · intro W hW
    go_simp
    all_goals with_reducible rfl
  try simp only [Act.put, List.setIfInBounds_toArray, List.set_cons_zero, List.set_cons_succ]
  refine wpAnyH_done (by kernel_rfl) ?_ _
  go_wp2_with fail
  go_ret
  exact ⟨rfl, (Below.refl _ _).drew⟩
end Go.Proofs.YtebeacejlkiglaaDoor
