/-
  A message's name, of the program and of the document; its bytes, where it may be.; What the program reads of bytes as a message.; What the program's GetMessage answers.
-/
import Derived.Test.YtcpoaalhpjipaaaDoorMd7
import Derived.Test.YtcpoaalhpjipaaaDoorMd10
import Derived.Test.YtcpoaalhpjipaaaDoorMd12
namespace Go.Proofs.YtcpoaalhpjipaaaDoor
set_option maxRecDepth 100000
open Go.RowKit

def downS : ByteArray := ⟨#[100, 111, 119, 110]⟩
def upS : ByteArray := ⟨#[117, 112]⟩
theorem down_sn : sn downS = [100, 111, 119, 110] := by rfl
theorem up_sn : sn upS = [117, 112] := by rfl
theorem mgB_bytes {m : Mg} (ok : m.ok) : Bytes (mgB m) := fun x hx => by
  simp only [mgB, mgH, List.mem_append] at hx
  rcases hx with (h | h | h | h | h | h) | h
  · exact be8_bytes _ x h
  · exact be8_bytes _ x h
  · exact be8_bytes _ x h
  · obtain ⟨i, -, rfl⟩ := List.mem_map.1 h
    have := by_lo (V m.val.a m.val.b m.val.c m.val.d) (32 - 1 - i)
    omega
  · exact be8_bytes _ x h
  · exact be8_bytes _ x h
  · exact ok.data x h
/-- A message's name. -/
def mgN (dn : Bool) (m : Mg) : List Int := sha (frm (sn (if dn then downS else upS)) [mgB m])
theorem one_rdl {w : World} {T : TypeId} {u : Value} {xs : List Int} (h : Rd w u xs) : RdL (w.alloc (.cells #[u] T)) (.slice (some ⟨w.heap.size, 0, none⟩) 1 1) [xs] [] := by
  refine ⟨_, 1, rfl, .inr ⟨w.heap.size, 0, rfl, by simp, fun i hi => ?_⟩⟩
  obtain rfl : i = 0 := by simpa using hi
  exact ⟨u, (Joins.cell_of_block (heap_alloc_new w (.cells #[u] T)) 0).trans rfl, h.alloc _, fun _ k _ hm => by cases hm⟩
theorem frm_one {t : List Int} (xs : List Int) : (frm t [xs]).length = 1 + t.length + (8 + xs.length) := by rw [frm_len]; simp [blobs, be8_len]

set_option maxHeartbeats 4000000 in
theorem Hash9_any {w : World} {m : Mg} {q : Option Addr} {k : Nat} {dn : Bool} (ok : m.ok) (hr : Rd w (.slice q m.data.length k) m.data) (hl : m.data.length ≤ 1000000) (hT : Tbl w) :
    Calls Tryd.prog 16 #[.bool dn, .agg (mgRow m q m.data.length k).toArray] w fun e w' => e = .returned (.agg (hc (mgN dn m)).toArray) ∧ Below w.heap.size w w' := by
  have OK := Lib.hid ok
  have HV : Hid (∀ W, Below w.heap.size w W → Rd W (.slice q m.data.length k) m.data) := fun W hb => hr.on hb
  have HT := Lib.hid hT
  have hl2 : m.data.length ≤ 140737488355000 := by omega
  have HL := Lib.hid hl
  have b1 : Below w.heap.size w (w.alloc (.cells (mgRow m q m.data.length k).toArray 30)) := (Below.refl _ _).alloc (Nat.le_refl _) _
  have b2 : Below (w.alloc (.cells (mgRow m q m.data.length k).toArray 30)).heap.size (w.alloc (.cells (mgRow m q m.data.length k).toArray 30)) ((w.alloc (.cells (mgRow m q m.data.length k).toArray 30)).alloc (.cells (hc zero32).toArray 44)) := (Below.refl _ _).alloc (Nat.le_refl _) _
  have K0 := (MgAt.new w 30 m q m.data.length k).on b2
  have H0 := HashAt.new (w.alloc (.cells (mgRow m q m.data.length k).toArray 30)) zero32
  have hz : (w.alloc (.cells (mgRow m q m.data.length k).toArray 30)).heap.size = w.heap.size + 1 := by simp
  rw [hz] at H0
  have HZ := Lib.hid H0
  have B0 := Lib.hid (b1.trans (b2.mono b1.size))
  have hrow := K0.row
  have h9 := mgRow_len m q m.data.length k
  clear hr b1 b2 hz K0 H0 hT
  cases dn
  all_goals go_enter Tryd.func16, Tryd.ntmps16
  · go_wp2_with fail
    generalize ((w.alloc (.cells (mgRow m q m.data.length k).toArray 30)).alloc (.cells (hc zero32).toArray 44)) = w2 at *
    refine (messageBytes_any OK.out (HV.out _ B0.out) hl2).mono ?_
    rintro e w3 ⟨u, rfl, hS⟩
    obtain ⟨q3, k3, rfl⟩ := hS.len
    have RD := Lib.hid hS.rd
    have B3 := Lib.hid (B0.out.trans (hS.below.mono B0.out.size))
    have HZ3 := Lib.hid (HZ.out.on hS.below)
    have LM : Hid ((mgB m).length = 72 + m.data.length) := mgB_len m
    have BM := Lib.hid (mgB_bytes OK.out)
    have HN : Hid (mgN false m = sha (frm (sn upS) [mgB m])) := rfl
    obtain ⟨N, hN⟩ : ∃ N, mgN false m = N := ⟨_, rfl⟩
    rw [hN] at HN
    have NN := Lib.hid hN
    obtain ⟨MB, hMB⟩ : ∃ MB, mgB m = MB := ⟨_, rfl⟩
    rw [hMB] at RD LM BM HN ⊢
    have b4 : Below w3.heap.size w3 (w3.alloc (.cells #[.slice q3 MB.length k3] 25)) := (Below.refl _ _).alloc (Nat.le_refl _) _
    have B4 := Lib.hid (B3.out.trans (b4.mono B3.out.size))
    have HZ4 := Lib.hid (HZ3.out.on b4)
    have RL := Lib.hid (one_rdl (T := 25) RD.out)
    have LF : Hid ((frm (sn upS) [MB]).length ≤ 2000000) := by
      have h1 := LM.out; have h2 := HL.out
      show _ ≤ _
      rw [frm_one, up_sn, h1]; simp; omega
    have BF : Hid (Bytes (frm (sn upS) [MB])) := frm_bytes (by rw [up_sn]; intro x hx; simp at hx; omega) (by rw [up_sn]; simp) (fun b hb => by
      obtain rfl : b = MB := by simpa using hb
      exact BM.out)
    clear hS hN hMB hrow h9 b4 HZ3 B3 HZ B0
    go_wp2_with fail
    refine (Tagged_any (s := upS) RL.out (HT.out.on B4.out HT.out.pos) (by decide) (cut_small (by decide)) (by have := LF.out; omega) BF.out).mono ?_
    rintro e w5 ⟨rfl, hb5⟩
    have H5 := HZ4.out.on hb5
    have hlen := sha_len (frm (sn upS) [MB])
    rw [← HN.out] at hlen ⊢
    have hth := H5.there zero32_len
    have hput := (H5.put zero32_len hlen).row hlen
    have BX := Lib.hid (below_setCells' (B := w.heap.size) (w.heap.size + 1) (by omega) (hc N) 0 (B4.out.trans (hb5.mono B4.out.size)))
    clear hb5 H5 HN LF BF RL RD LM BM
    go_wp2_with fail
    refine bodyPost_ret (v := .agg (hc N).toArray) (by simp [results, Tryd.results16, go_sem, hput, hlen]) rfl ⟨by rw [NN.out], BX.out⟩
  · go_wp2_with fail
    generalize ((w.alloc (.cells (mgRow m q m.data.length k).toArray 30)).alloc (.cells (hc zero32).toArray 44)) = w2 at *
    refine (messageBytes_any OK.out (HV.out _ B0.out) hl2).mono ?_
    rintro e w3 ⟨u, rfl, hS⟩
    obtain ⟨q3, k3, rfl⟩ := hS.len
    have RD := Lib.hid hS.rd
    have B3 := Lib.hid (B0.out.trans (hS.below.mono B0.out.size))
    have HZ3 := Lib.hid (HZ.out.on hS.below)
    have LM : Hid ((mgB m).length = 72 + m.data.length) := mgB_len m
    have BM := Lib.hid (mgB_bytes OK.out)
    have HN : Hid (mgN true m = sha (frm (sn downS) [mgB m])) := rfl
    obtain ⟨N, hN⟩ : ∃ N, mgN true m = N := ⟨_, rfl⟩
    rw [hN] at HN
    have NN := Lib.hid hN
    obtain ⟨MB, hMB⟩ : ∃ MB, mgB m = MB := ⟨_, rfl⟩
    rw [hMB] at RD LM BM HN ⊢
    have b4 : Below w3.heap.size w3 (w3.alloc (.cells #[.slice q3 MB.length k3] 25)) := (Below.refl _ _).alloc (Nat.le_refl _) _
    have B4 := Lib.hid (B3.out.trans (b4.mono B3.out.size))
    have HZ4 := Lib.hid (HZ3.out.on b4)
    have RL := Lib.hid (one_rdl (T := 25) RD.out)
    have LF : Hid ((frm (sn downS) [MB]).length ≤ 2000000) := by
      have h1 := LM.out; have h2 := HL.out
      show _ ≤ _
      rw [frm_one, down_sn, h1]; simp; omega
    have BF : Hid (Bytes (frm (sn downS) [MB])) := frm_bytes (by rw [down_sn]; intro x hx; simp at hx; omega) (by rw [down_sn]; simp) (fun b hb => by
      obtain rfl : b = MB := by simpa using hb
      exact BM.out)
    clear hS hN hMB hrow h9 b4 HZ3 B3 HZ B0
    go_wp2_with fail
    refine (Tagged_any (s := downS) RL.out (HT.out.on B4.out HT.out.pos) (by decide) (cut_small (by decide)) (by have := LF.out; omega) BF.out).mono ?_
    rintro e w5 ⟨rfl, hb5⟩
    have H5 := HZ4.out.on hb5
    have hlen := sha_len (frm (sn downS) [MB])
    rw [← HN.out] at hlen ⊢
    have hth := H5.there zero32_len
    have hput := (H5.put zero32_len hlen).row hlen
    have BX := Lib.hid (below_setCells' (B := w.heap.size) (w.heap.size + 1) (by omega) (hc N) 0 (B4.out.trans (hb5.mono B4.out.size)))
    clear hb5 H5 HN LF BF RL RD LM BM
    go_wp2_with fail
    refine bodyPost_ret (v := .agg (hc N).toArray) (by simp [results, Tryd.results16, go_sem, hput, hlen]) rfl ⟨by rw [NN.out], BX.out⟩

set_option maxHeartbeats 4000000 in
theorem refHash9_any {w : World} {m : Mg} {q : Option Addr} {k : Nat} {dn : Bool} (ok : m.ok) (hr : Rd w (.slice q m.data.length k) m.data) (hl : m.data.length ≤ 1000000) :
    Calls Tryd.prog 17 #[.bool dn, .agg (mgRow m q m.data.length k).toArray] w fun e w' => e = .returned (.agg (hc (mgN dn m)).toArray) ∧ Below w.heap.size w w' := by
  have OK := Lib.hid ok
  have HV : Hid (∀ W, Below w.heap.size w W → Rd W (.slice q m.data.length k) m.data) := fun W hb => hr.on hb
  have hl2 : m.data.length ≤ 140737488355000 := by omega
  have HL := Lib.hid hl
  have b1 : Below w.heap.size w (w.alloc (.cells (mgRow m q m.data.length k).toArray 27)) := (Below.refl _ _).alloc (Nat.le_refl _) _
  have b2 : Below (w.alloc (.cells (mgRow m q m.data.length k).toArray 27)).heap.size (w.alloc (.cells (mgRow m q m.data.length k).toArray 27)) ((w.alloc (.cells (mgRow m q m.data.length k).toArray 27)).alloc (.cells (hc zero32).toArray 44)) := (Below.refl _ _).alloc (Nat.le_refl _) _
  have K0 := (MgAt.new w 27 m q m.data.length k).on b2
  have H0 := HashAt.new (w.alloc (.cells (mgRow m q m.data.length k).toArray 27)) zero32
  have hz : (w.alloc (.cells (mgRow m q m.data.length k).toArray 27)).heap.size = w.heap.size + 1 := by simp
  rw [hz] at H0
  have HZ := Lib.hid H0
  have B0 := Lib.hid (b1.trans (b2.mono b1.size))
  have hrow := K0.row
  have h9 := mgRow_len m q m.data.length k
  clear hr b1 b2 hz K0 H0
  cases dn
  all_goals go_enter Tryd.func17, Tryd.ntmps17
  · go_wp2_with fail
    generalize ((w.alloc (.cells (mgRow m q m.data.length k).toArray 27)).alloc (.cells (hc zero32).toArray 44)) = w2 at *
    refine (refMsgBytes_any OK.out (HV.out _ B0.out) hl2).mono ?_
    rintro e w3 ⟨u, rfl, hS⟩
    obtain ⟨q3, k3, rfl⟩ := hS.len
    have RD := Lib.hid hS.rd
    have B3 := Lib.hid (B0.out.trans (hS.below.mono B0.out.size))
    have HZ3 := Lib.hid (HZ.out.on hS.below)
    have LM : Hid ((mgB m).length = 72 + m.data.length) := mgB_len m
    have BM := Lib.hid (mgB_bytes OK.out)
    have HN : Hid (mgN false m = sha (frm (sn upS) [mgB m])) := rfl
    obtain ⟨N, hN⟩ : ∃ N, mgN false m = N := ⟨_, rfl⟩
    rw [hN] at HN
    have NN := Lib.hid hN
    obtain ⟨MB, hMB⟩ : ∃ MB, mgB m = MB := ⟨_, rfl⟩
    rw [hMB] at RD LM BM HN ⊢
    have b4 : Below w3.heap.size w3 (w3.alloc (.cells #[.slice q3 MB.length k3] 25)) := (Below.refl _ _).alloc (Nat.le_refl _) _
    have B4 := Lib.hid (B3.out.trans (b4.mono B3.out.size))
    have HZ4 := Lib.hid (HZ3.out.on b4)
    have RL := Lib.hid (one_rdl (T := 25) RD.out)
    have LF : Hid ((frm (sn upS) [MB]).length ≤ 2000000) := by
      have h1 := LM.out; have h2 := HL.out
      show _ ≤ _
      rw [frm_one, up_sn, h1]; simp; omega
    have BF : Hid (Bytes (frm (sn upS) [MB])) := frm_bytes (by rw [up_sn]; intro x hx; simp at hx; omega) (by rw [up_sn]; simp) (fun b hb => by
      obtain rfl : b = MB := by simpa using hb
      exact BM.out)
    clear hS hN hMB hrow h9 b4 HZ3 B3 HZ B0
    go_wp2_with fail
    refine (refTagged_any (s := upS) RL.out (by decide) (cut_small (by decide)) (by have := LF.out; omega) BF.out).mono ?_
    rintro e w5 ⟨rfl, hb5⟩
    have H5 := HZ4.out.on hb5
    have hlen := sha_len (frm (sn upS) [MB])
    rw [← HN.out] at hlen ⊢
    have hth := H5.there zero32_len
    have hput := (H5.put zero32_len hlen).row hlen
    have BX := Lib.hid (below_setCells' (B := w.heap.size) (w.heap.size + 1) (by omega) (hc N) 0 (B4.out.trans (hb5.mono B4.out.size)))
    clear hb5 H5 HN LF BF RL RD LM BM
    go_wp2_with fail
    refine bodyPost_ret (v := .agg (hc N).toArray) (by simp [results, Tryd.results17, go_sem, hput, hlen]) rfl ⟨by rw [NN.out], BX.out⟩
  · go_wp2_with fail
    generalize ((w.alloc (.cells (mgRow m q m.data.length k).toArray 27)).alloc (.cells (hc zero32).toArray 44)) = w2 at *
    refine (refMsgBytes_any OK.out (HV.out _ B0.out) hl2).mono ?_
    rintro e w3 ⟨u, rfl, hS⟩
    obtain ⟨q3, k3, rfl⟩ := hS.len
    have RD := Lib.hid hS.rd
    have B3 := Lib.hid (B0.out.trans (hS.below.mono B0.out.size))
    have HZ3 := Lib.hid (HZ.out.on hS.below)
    have LM : Hid ((mgB m).length = 72 + m.data.length) := mgB_len m
    have BM := Lib.hid (mgB_bytes OK.out)
    have HN : Hid (mgN true m = sha (frm (sn downS) [mgB m])) := rfl
    obtain ⟨N, hN⟩ : ∃ N, mgN true m = N := ⟨_, rfl⟩
    rw [hN] at HN
    have NN := Lib.hid hN
    obtain ⟨MB, hMB⟩ : ∃ MB, mgB m = MB := ⟨_, rfl⟩
    rw [hMB] at RD LM BM HN ⊢
    have b4 : Below w3.heap.size w3 (w3.alloc (.cells #[.slice q3 MB.length k3] 25)) := (Below.refl _ _).alloc (Nat.le_refl _) _
    have B4 := Lib.hid (B3.out.trans (b4.mono B3.out.size))
    have HZ4 := Lib.hid (HZ3.out.on b4)
    have RL := Lib.hid (one_rdl (T := 25) RD.out)
    have LF : Hid ((frm (sn downS) [MB]).length ≤ 2000000) := by
      have h1 := LM.out; have h2 := HL.out
      show _ ≤ _
      rw [frm_one, down_sn, h1]; simp; omega
    have BF : Hid (Bytes (frm (sn downS) [MB])) := frm_bytes (by rw [down_sn]; intro x hx; simp at hx; omega) (by rw [down_sn]; simp) (fun b hb => by
      obtain rfl : b = MB := by simpa using hb
      exact BM.out)
    clear hS hN hMB hrow h9 b4 HZ3 B3 HZ B0
    go_wp2_with fail
    refine (refTagged_any (s := downS) RL.out (by decide) (cut_small (by decide)) (by have := LF.out; omega) BF.out).mono ?_
    rintro e w5 ⟨rfl, hb5⟩
    have H5 := HZ4.out.on hb5
    have hlen := sha_len (frm (sn downS) [MB])
    rw [← HN.out] at hlen ⊢
    have hth := H5.there zero32_len
    have hput := (H5.put zero32_len hlen).row hlen
    have BX := Lib.hid (below_setCells' (B := w.heap.size) (w.heap.size + 1) (by omega) (hc N) 0 (B4.out.trans (hb5.mono B4.out.size)))
    clear hb5 H5 HN LF BF RL RD LM BM
    go_wp2_with fail
    refine bodyPost_ret (v := .agg (hc N).toArray) (by simp [results, Tryd.results17, go_sem, hput, hlen]) rfl ⟨by rw [NN.out], BX.out⟩

/-- May a message be? Its bytes, where it may; what Put tells. -/
def okM (m : Mg) : Bool := decide (m.gas ≤ 65536 ∧ m.data.length ≤ 64)
def pMB (m : Mg) : List Int := if okM m = true then mgB m else []
def pME (m : Mg) : Int := if okM m = true then 0 else 1

set_option maxHeartbeats 4000000 in
theorem PutMessage_any {w : World} {m : Mg} {q : Option Addr} {k : Nat} (ok : m.ok) (hr : Rd w (.slice q m.data.length k) m.data) (hl : m.data.length ≤ 1000000) :
    Calls Tryd.prog 10 #[.agg (mgRow m q m.data.length k).toArray] w fun e w' => ∃ q' k', e = .returned (.tuple #[.slice q' (pMB m).length k', .int .i64 (pME m)]) ∧ Rd w' (.slice q' (pMB m).length k') (pMB m) ∧ Below w.heap.size w w' := by
  have OK := Lib.hid ok
  have HV : Hid (∀ W, Below w.heap.size w W → Rd W (.slice q m.data.length k) m.data) := fun W hb => hr.on hb
  have hl2 : m.data.length ≤ 140737488355000 := by omega
  have b1 : Below w.heap.size w (w.alloc (.cells (mgRow m q m.data.length k).toArray 30)) := (Below.refl _ _).alloc (Nat.le_refl _) _
  have K0 := Lib.hid (MgAt.new w 30 m q m.data.length k)
  have B0 := Lib.hid b1
  have hrow := K0.out.row
  have h9 := mgRow_len m q m.data.length k
  have KR := fun W => RightMessage_any (w := W) (m := m) (q := q) (n := m.data.length) (k := k) ok.gas (by unfold maxLen; omega)
  have HY : Hid (okM m = true → pMB m = mgB m ∧ pME m = 0) := fun h => ⟨if_pos h, if_pos h⟩
  have HN : Hid (okM m = false → pMB m = [] ∧ pME m = 1) := fun h => by unfold pMB pME; rw [h]; exact ⟨rfl, rfl⟩
  have e0 : decide (m.gas ≤ 65536 ∧ m.data.length ≤ 64) = okM m := rfl
  rw [e0] at KR
  have KRH := Lib.hid KR
  clear hr b1 KR e0 ok
  obtain ⟨b, hbk⟩ : ∃ b, okM m = b := ⟨_, rfl⟩
  rw [hbk] at KRH HY HN
  clear hbk
  go_enter Tryd.func10, Tryd.ntmps10
  go_wp2_with fail
  generalize (w.alloc (.cells (mgRow m q m.data.length k).toArray 30)) = w0 at *
  refine (KRH.out w0).mono ?_
  rintro e w1 ⟨rfl, hb1⟩
  have B1 := Lib.hid (B0.out.trans (hb1.mono B0.out.size))
  have K1 := K0.out.on hb1
  have hrow := K1.row
  clear hb1 K1 KRH K0
  cases b with
  | false =>
    have E := Lib.hid (HN.out rfl)
    clear HN HY
    go_wp2_with fail
    go_ret2
    exact ⟨none, 0, by rw [E.out.1, E.out.2]; rfl, by rw [E.out.1]; exact Rd.nil w1, B1.out⟩
  | true =>
    have E := Lib.hid (HY.out rfl)
    clear HN HY
    go_wp2_with fail
    refine (messageBytes_any OK.out (HV.out _ B1.out) hl2).mono ?_
    rintro e w3 ⟨u, rfl, hS⟩
    obtain ⟨q3, k3, rfl⟩ := hS.len
    have RD := Lib.hid hS.rd
    have B3 := Lib.hid (B1.out.trans (hS.below.mono B1.out.size))
    clear hS hrow h9
    go_wp2_with fail
    go_ret2
    exact ⟨q3, k3, by rw [E.out.1, E.out.2]; rfl, by rw [E.out.1]; exact RD.out, B3.out⟩

set_option maxHeartbeats 4000000 in
theorem refPutMessage_any {w : World} {m : Mg} {q : Option Addr} {k : Nat} (ok : m.ok) (hr : Rd w (.slice q m.data.length k) m.data) (hl : m.data.length ≤ 1000000) :
    Calls Tryd.prog 11 #[.agg (mgRow m q m.data.length k).toArray] w fun e w' => ∃ q' k', e = .returned (.tuple #[.slice q' (pMB m).length k', .int .i64 (pME m)]) ∧ Rd w' (.slice q' (pMB m).length k') (pMB m) ∧ Below w.heap.size w w' := by
  have OK := Lib.hid ok
  have HV : Hid (∀ W, Below w.heap.size w W → Rd W (.slice q m.data.length k) m.data) := fun W hb => hr.on hb
  have hl2 : m.data.length ≤ 140737488355000 := by omega
  have b1 : Below w.heap.size w (w.alloc (.cells (mgRow m q m.data.length k).toArray 27)) := (Below.refl _ _).alloc (Nat.le_refl _) _
  have K0 := Lib.hid (MgAt.new w 27 m q m.data.length k)
  have B0 := Lib.hid b1
  have hrow := K0.out.row
  have h9 := mgRow_len m q m.data.length k
  have KR := fun W => refRightMessage_any (w := W) (m := m) (q := q) (n := m.data.length) (k := k) ok.gas (by unfold maxLen; omega)
  have HY : Hid (okM m = true → pMB m = mgB m ∧ pME m = 0) := fun h => ⟨if_pos h, if_pos h⟩
  have HN : Hid (okM m = false → pMB m = [] ∧ pME m = 1) := fun h => by unfold pMB pME; rw [h]; exact ⟨rfl, rfl⟩
  have e0 : decide (m.gas ≤ 65536 ∧ m.data.length ≤ 64) = okM m := rfl
  rw [e0] at KR
  have KRH := Lib.hid KR
  clear hr b1 KR e0 ok
  obtain ⟨b, hbk⟩ : ∃ b, okM m = b := ⟨_, rfl⟩
  rw [hbk] at KRH HY HN
  clear hbk
  go_enter Tryd.func11, Tryd.ntmps11
  go_wp2_with fail
  generalize (w.alloc (.cells (mgRow m q m.data.length k).toArray 27)) = w0 at *
  refine (KRH.out w0).mono ?_
  rintro e w1 ⟨rfl, hb1⟩
  have B1 := Lib.hid (B0.out.trans (hb1.mono B0.out.size))
  have K1 := K0.out.on hb1
  have hrow := K1.row
  clear hb1 K1 KRH K0
  cases b with
  | false =>
    have E := Lib.hid (HN.out rfl)
    clear HN HY
    go_wp2_with fail
    go_ret2
    exact ⟨none, 0, by rw [E.out.1, E.out.2]; rfl, by rw [E.out.1]; exact Rd.nil w1, B1.out⟩
  | true =>
    have E := Lib.hid (HY.out rfl)
    clear HN HY
    go_wp2_with fail
    refine (refMsgBytes_any OK.out (HV.out _ B1.out) hl2).mono ?_
    rintro e w3 ⟨u, rfl, hS⟩
    obtain ⟨q3, k3, rfl⟩ := hS.len
    have RD := Lib.hid hS.rd
    have B3 := Lib.hid (B1.out.trans (hS.below.mono B1.out.size))
    clear hS hrow h9
    go_wp2_with fail
    go_ret2
    exact ⟨q3, k3, by rw [E.out.1, E.out.2]; rfl, by rw [E.out.1]; exact RD.out, B3.out⟩
end Go.Proofs.YtcpoaalhpjipaaaDoor
namespace Go.Proofs.YtcpoaalhpjipaaaDoor
set_option maxRecDepth 100000
open Go.RowKit

/-- What bytes tell as a message, and whether they tell one. -/
def g1 (xs : List Int) : Bool := fU false xs 0 8
def g2 (xs : List Int) : Bool := fU (g1 xs) xs 8 8
def g3 (xs : List Int) : Bool := fU (g2 xs) xs 16 8
def g4 (xs : List Int) : Bool := fU (g3 xs) xs 24 32
def g5 (xs : List Int) : Bool := fU (g4 xs) xs 56 8
def g6 (xs : List Int) : Bool := fB (g5 xs) xs 64
def mM (xs : List Int) : Mg := ⟨uV (g1 xs) xs 0, uV (g2 xs) xs 8, uV (g3 xs) xs 16, wV (g4 xs) xs 24, uV (g5 xs) xs 56, bD (g6 xs) xs 64⟩
theorem wV_ok {xs : List Int} (hx : Bytes xs) (f : Bool) (pos : Nat) : D4 (wV f xs pos).a (wV f xs pos).b (wV f xs pos).c (wV f xs pos).d := by
  unfold wV
  split
  · exact ⟨dg0, dg0, dg0, dg0⟩
  · exact w4_ok hx pos
theorem mM_ok {xs : List Int} (hx : Bytes xs) : (mM xs).ok := ⟨uV_bd hx _ _, uV_bd hx _ _, uV_bd hx _ _, wV_ok hx _ _, uV_bd hx _ _, bD_bytes hx _ _⟩
theorem mM_len (xs : List Int) : (mM xs).data.length ≤ 65536 := bD_len (g5 xs) xs 64 (.inr trivial)
/-- Where the reader stands behind a message; whether the bytes tell one. -/
def mEnd (xs : List Int) : Nat := 72 + (mM xs).data.length
def mOk (xs : List Int) : Bool := (!(g6 xs) && decide (mEnd xs = xs.length)) && okM (mM xs)
def mG (xs : List Int) : Mg := if mOk xs = true then mM xs else mg0
def mE (xs : List Int) : Int := if mOk xs = true then 0 else 21
theorem mG_ok {xs : List Int} (hx : Bytes xs) : (mG xs).ok := by
  unfold mG
  split
  · exact mM_ok hx
  · exact mg0_ok
theorem mG_len (xs : List Int) : (mG xs).data.length ≤ 65536 := by
  unfold mG
  split
  · exact mM_len xs
  · simp [mg0]

section
variable {w : World} {b : Nat} {t : TypeId} {a1 a2 a3 a5 : Int} {x4 : W4} {D : List Int} {q : Option Addr} {n k : Nat}
theorem MgAt.st0 (h : MgAt w b t ⟨a1, a2, a3, x4, a5, D⟩ q n k) (z : Int) : MgAt (w.setCell ⟨b, 0, none⟩ (.int .u64 z)) b t ⟨z, a2, a3, x4, a5, D⟩ q n k := by
  unfold MgAt at h ⊢
  rw [Joins.block_setCell (i := 0) h]; rfl
theorem MgAt.st1 (h : MgAt w b t ⟨a1, a2, a3, x4, a5, D⟩ q n k) (z : Int) : MgAt (w.setCell ⟨b, 1, none⟩ (.int .u64 z)) b t ⟨a1, z, a3, x4, a5, D⟩ q n k := by
  unfold MgAt at h ⊢
  rw [Joins.block_setCell (i := 1) h]; rfl
theorem MgAt.st2 (h : MgAt w b t ⟨a1, a2, a3, x4, a5, D⟩ q n k) (z : Int) : MgAt (w.setCell ⟨b, 2, none⟩ (.int .u64 z)) b t ⟨a1, a2, z, x4, a5, D⟩ q n k := by
  unfold MgAt at h ⊢
  rw [Joins.block_setCell (i := 2) h]; rfl
theorem MgAt.st3 (h : MgAt w b t ⟨a1, a2, a3, x4, a5, D⟩ q n k) (y : W4) : MgAt ((((w.setCell ⟨b, 3, none⟩ (.int .u64 y.a)).setCell ⟨b, 4, none⟩ (.int .u64 y.b)).setCell ⟨b, 5, none⟩ (.int .u64 y.c)).setCell ⟨b, 6, none⟩ (.int .u64 y.d)) b t ⟨a1, a2, a3, y, a5, D⟩ q n k := by
  unfold MgAt at h ⊢
  rw [Joins.block_setCell (i := 6) (Joins.block_setCell (i := 5) (Joins.block_setCell (i := 4) (Joins.block_setCell (i := 3) h _) _) _)]; rfl
theorem MgAt.st7 (h : MgAt w b t ⟨a1, a2, a3, x4, a5, D⟩ q n k) (z : Int) : MgAt (w.setCell ⟨b, 7, none⟩ (.int .u64 z)) b t ⟨a1, a2, a3, x4, z, D⟩ q n k := by
  unfold MgAt at h ⊢
  rw [Joins.block_setCell (i := 7) h]; rfl
theorem MgAt.st8 (h : MgAt w b t ⟨a1, a2, a3, x4, a5, D⟩ q n k) (D' : List Int) (q' : Option Addr) (n' k' : Nat) : MgAt (w.setCell ⟨b, 8, none⟩ (.slice q' n' k')) b t ⟨a1, a2, a3, x4, a5, D'⟩ q' n' k' := by
  unfold MgAt at h ⊢
  rw [Joins.block_setCell (i := 8) h]; rfl
end
theorem MgAt.off {w : World} {b : Nat} {t e : TypeId} {m : Mg} {q : Option Addr} {n k l : Nat} {v : Value} {ys : List Value} (h : MgAt w b t m q n k) (ho : w.ownsRow 0 e 1 v l ys) (ht : t ≠ e) : ∀ g, v.ownBlock = some g → g ∉ [b] := fun g hg hm => by
  obtain rfl : g = b := by simpa using hm
  exact own_ne ho h ht hg
theorem Chg.more {w w' : World} {K L : List Nat} (h : Chg w w' K) (hl : ∀ x, x ∈ K → x ∈ L) : Chg w w' L := (Chg.refl w L).trans h (fun x hx _ => hl x hx)

set_option maxHeartbeats 8000000 in
theorem parse_any {w : World} {b p : Nat} {v : Value} {xs : List Int} (hK : MgAt w b 30 mg0 none 0 0) (hS : RSt w p v xs 0 false) (hx : Bytes xs) (hbp : b ≠ p) :
    Calls Tryd.prog 110 #[.pointer (some ⟨b, 0, none⟩), .pointer (some ⟨p, 0, none⟩)] w fun e w' => ∃ q k, e = .returned (.tuple #[]) ∧ MgAt w' b 30 (mM xs) q (mM xs).data.length k ∧ RSt w' p v xs (mEnd xs) (g6 xs) ∧ Rd w' (.slice q (mM xs).data.length k) (mM xs).data ∧ (∀ g, (Value.slice q (mM xs).data.length k).ownBlock = some g → w.heap.size ≤ g) ∧ Chg w w' [b, p] := by
  have BX := Lib.hid hx
  have K0 := Lib.hid hK
  have S0 := Lib.hid hS
  have MM : Hid (mM xs = ⟨uV (g1 xs) xs 0, uV (g2 xs) xs 8, uV (g3 xs) xs 16, wV (g4 xs) xs 24, uV (g5 xs) xs 56, bD (g6 xs) xs 64⟩) := rfl
  have ME : Hid (mEnd xs = 72 + (mM xs).data.length) := rfl
  obtain ⟨f1, e1⟩ : ∃ f, g1 xs = f := ⟨_, rfl⟩
  obtain ⟨f2, e2⟩ : ∃ f, g2 xs = f := ⟨_, rfl⟩
  obtain ⟨f3, e3⟩ : ∃ f, g3 xs = f := ⟨_, rfl⟩
  obtain ⟨f4, e4⟩ : ∃ f, g4 xs = f := ⟨_, rfl⟩
  obtain ⟨f5, e5⟩ : ∃ f, g5 xs = f := ⟨_, rfl⟩
  obtain ⟨f6, e6⟩ : ∃ f, g6 xs = f := ⟨_, rfl⟩
  rw [e1, e2, e3, e4, e5, e6] at MM
  have d1 := Lib.hid (show fU false xs 0 8 = f1 from e1)
  have d2 := Lib.hid (show fU f1 xs 8 8 = f2 by rw [← e1]; exact e2)
  have d3 := Lib.hid (show fU f2 xs 16 8 = f3 by rw [← e2]; exact e3)
  have d4 := Lib.hid (show fU f3 xs 24 32 = f4 by rw [← e3]; exact e4)
  have d5 := Lib.hid (show fU f4 xs 56 8 = f5 by rw [← e4]; exact e5)
  have d6 := Lib.hid (show fB f5 xs 64 = f6 by rw [← e5]; exact e6)
  have E6 := Lib.hid e6
  obtain ⟨z1, h1⟩ : ∃ z, uV f1 xs 0 = z := ⟨_, rfl⟩
  obtain ⟨z2, h2⟩ : ∃ z, uV f2 xs 8 = z := ⟨_, rfl⟩
  obtain ⟨z3, h3⟩ : ∃ z, uV f3 xs 16 = z := ⟨_, rfl⟩
  obtain ⟨x4, h4⟩ : ∃ z, wV f4 xs 24 = z := ⟨_, rfl⟩
  obtain ⟨z5, h5⟩ : ∃ z, uV f5 xs 56 = z := ⟨_, rfl⟩
  obtain ⟨D6, h6⟩ : ∃ z, bD f6 xs 64 = z := ⟨_, rfl⟩
  rw [h1, h2, h3, h4, h5, h6] at MM
  have Z1 := Lib.hid h1
  have Z2 := Lib.hid h2
  have Z3 := Lib.hid h3
  have X4 := Lib.hid h4
  have Z5 := Lib.hid h5
  have H6 := Lib.hid h6
  clear hK hS hx e1 e2 e3 e4 e5 e6 h1 h2 h3 h4 h5 h6
  go_enter Tryd.func110, Tryd.ntmps110
  go_wp2_with fail
  refine (Uint_st S0.out BX.out).mono ?_
  rintro e w1 ⟨rfl, hs1, hc1⟩
  rw [d1.out] at hs1 ⊢
  rw [Z1.out]
  have S1 := Lib.hid hs1
  have K1 := Lib.hid (K0.out.chg hc1 (by simpa using hbp))
  have C1 : Hid (Chg w w1 [b, p]) := (hc1.more (by simp))
  clear hs1 hc1 S0 K0
  go_wp2_with fail
  refine (Uint_st S1.out BX.out).mono ?_
  rintro e w2 ⟨rfl, hs2, hc2⟩
  rw [d2.out] at hs2 ⊢
  rw [Z2.out]
  have S2 := Lib.hid hs2
  have K2 := Lib.hid (K1.out.chg hc2 (by simpa using hbp))
  have C2 : Hid (Chg w w2 [b, p]) := C1.out.trans (hc2.more (by simp)) (fun x hx _ => hx)
  clear hs2 hc2 S1 C1 K1
  go_wp2_with fail
  refine (Uint_st S2.out BX.out).mono ?_
  rintro e w3 ⟨rfl, hs3, hc3⟩
  rw [d3.out] at hs3 ⊢
  rw [Z3.out]
  have S3 := Lib.hid hs3
  have K3 := Lib.hid (K2.out.chg hc3 (by simpa using hbp))
  have C3 : Hid (Chg w w3 [b, p]) := C2.out.trans (hc3.more (by simp)) (fun x hx _ => hx)
  clear hs3 hc3 S2 C2 K2
  obtain ⟨c0, c1, c2, -, -, -, -, -, -⟩ := K3.out.cells
  have y0 := K3.out.frees 0
  have y1 := K3.out.frees 1
  have y2 := K3.out.frees 2
  have cs : Chg w3 (((w3.setCell ⟨b, 0, none⟩ (.int .u64 z1)).setCell ⟨b, 1, none⟩ (.int .u64 z2)).setCell ⟨b, 2, none⟩ (.int .u64 z3)) [b] := ((((Chg.refl _ [b]).setCell (p := ⟨b, 0, none⟩) (.inl (by simp)) _).setCell (p := ⟨b, 1, none⟩) (.inl (by simp)) _).setCell (p := ⟨b, 2, none⟩) (.inl (by simp)) _)
  have K4 := Lib.hid (((K3.out.st0 z1).st1 z2).st2 z3)
  have S4 := Lib.hid (S3.out.chg2 cs (by simpa using Ne.symm hbp) (fun ho => K3.out.off ho (by decide)))
  have C4 : Hid (Chg w (((w3.setCell ⟨b, 0, none⟩ (.int .u64 z1)).setCell ⟨b, 1, none⟩ (.int .u64 z2)).setCell ⟨b, 2, none⟩ (.int .u64 z3)) [b, p]) := C3.out.trans (cs.more (by simp)) (fun x hx _ => hx)
  clear cs S3 C3 K3
  go_wp2_with fail
  clear c0 c1 c2 y0 y1 y2
  generalize (((w3.setCell ⟨b, 0, none⟩ (.int .u64 z1)).setCell ⟨b, 1, none⟩ (.int .u64 z2)).setCell ⟨b, 2, none⟩ (.int .u64 z3)) = w4 at *
  refine (Wide_st S4.out BX.out).mono ?_
  rintro e w5 ⟨rfl, hs5, hc5⟩
  rw [d4.out] at hs5 ⊢
  rw [X4.out]
  unfold w4v
  have S5 := Lib.hid hs5
  have K5 := Lib.hid (K4.out.chg hc5 (by simpa using hbp))
  have C5 : Hid (Chg w w5 [b, p]) := C4.out.trans (hc5.more (by simp)) (fun x hx _ => hx)
  clear hs5 hc5 S4 C4 K4
  obtain ⟨-, -, -, c3, c4, c5, c6, -, -⟩ := K5.out.cells
  have y3 := K5.out.frees 3
  have y4 := K5.out.frees 4
  have y5 := K5.out.frees 5
  have y6 := K5.out.frees 6
  have cs : Chg w5 ((((w5.setCell ⟨b, 3, none⟩ (.int .u64 x4.a)).setCell ⟨b, 4, none⟩ (.int .u64 x4.b)).setCell ⟨b, 5, none⟩ (.int .u64 x4.c)).setCell ⟨b, 6, none⟩ (.int .u64 x4.d)) [b] := (((((Chg.refl _ [b]).setCell (p := ⟨b, 3, none⟩) (.inl (by simp)) _).setCell (p := ⟨b, 4, none⟩) (.inl (by simp)) _).setCell (p := ⟨b, 5, none⟩) (.inl (by simp)) _).setCell (p := ⟨b, 6, none⟩) (.inl (by simp)) _)
  have K6 := Lib.hid (K5.out.st3 x4)
  have S6 := Lib.hid (S5.out.chg2 cs (by simpa using Ne.symm hbp) (fun ho => K5.out.off ho (by decide)))
  have C6 : Hid (Chg w ((((w5.setCell ⟨b, 3, none⟩ (.int .u64 x4.a)).setCell ⟨b, 4, none⟩ (.int .u64 x4.b)).setCell ⟨b, 5, none⟩ (.int .u64 x4.c)).setCell ⟨b, 6, none⟩ (.int .u64 x4.d)) [b, p]) := C5.out.trans (cs.more (by simp)) (fun x hx _ => hx)
  clear cs S5 C5 K5
  go_wp2_with fail
  clear c3 c4 c5 c6 y3 y4 y5 y6
  generalize ((((w5.setCell ⟨b, 3, none⟩ (.int .u64 x4.a)).setCell ⟨b, 4, none⟩ (.int .u64 x4.b)).setCell ⟨b, 5, none⟩ (.int .u64 x4.c)).setCell ⟨b, 6, none⟩ (.int .u64 x4.d)) = w6 at *
  refine (Uint_st S6.out BX.out).mono ?_
  rintro e w7 ⟨rfl, hs7, hc7⟩
  rw [d5.out] at hs7 ⊢
  rw [Z5.out]
  have S7 := Lib.hid hs7
  have K7 := Lib.hid (K6.out.chg hc7 (by simpa using hbp))
  have C7 : Hid (Chg w w7 [b, p]) := C6.out.trans (hc7.more (by simp)) (fun x hx _ => hx)
  clear hs7 hc7 S6 C6 K6
  obtain ⟨-, -, -, -, -, -, -, c7, -⟩ := K7.out.cells
  have y7 := K7.out.frees 7
  have cs : Chg w7 (w7.setCell ⟨b, 7, none⟩ (.int .u64 z5)) [b] := ((Chg.refl _ [b]).setCell (p := ⟨b, 7, none⟩) (.inl (by simp)) _)
  have K8 := Lib.hid (K7.out.st7 z5)
  have S8 := Lib.hid (S7.out.chg2 cs (by simpa using Ne.symm hbp) (fun ho => K7.out.off ho (by decide)))
  have C8 : Hid (Chg w (w7.setCell ⟨b, 7, none⟩ (.int .u64 z5)) [b, p]) := C7.out.trans (cs.more (by simp)) (fun x hx _ => hx)
  clear cs S7 C7 K7
  go_wp2_with fail
  clear c7 y7
  generalize (w7.setCell ⟨b, 7, none⟩ (.int .u64 z5)) = w8 at *
  refine (Blob_st S8.out BX.out).mono ?_
  rintro e w9 ⟨q9, k9, rfl, hr9, hf9, hs9, hc9⟩
  rw [d6.out] at hr9 hf9 hs9 ⊢
  rw [H6.out] at hr9 hf9 hs9 ⊢
  have S9 := Lib.hid hs9
  have K9 := Lib.hid (K8.out.chg hc9 (by simpa using hbp))
  have hb8 := K8.out.lt
  have C9 : Hid (Chg w w9 [b, p]) := C8.out.trans (hc9.more (by simp)) (fun x hx _ => hx)
  have R9 : Hid (Rd (w9.setCell ⟨b, 8, none⟩ (.slice q9 D6.length k9)) (.slice q9 D6.length k9) D6) := hr9.setCell (a := ⟨b, 8, none⟩) (fun e => by have h9 : w8.heap.size ≤ b := hf9 _ e; omega) _
  have F9 : Hid (∀ g, (Value.slice q9 D6.length k9).ownBlock = some g → w.heap.size ≤ g) := fun g hg => Nat.le_trans C8.out.size (hf9 g hg)
  clear hs9 hc9 S8 C8 K8 hr9 hf9
  obtain ⟨-, -, -, -, -, -, -, -, c8⟩ := K9.out.cells
  have y8 := K9.out.frees 8
  have cs : Chg w9 (w9.setCell ⟨b, 8, none⟩ (.slice q9 D6.length k9)) [b] := ((Chg.refl _ [b]).setCell (p := ⟨b, 8, none⟩) (.inl (by simp)) _)
  have K10 := Lib.hid (K9.out.st8 D6 q9 D6.length k9)
  have S10 := Lib.hid (S9.out.chg2 cs (by simpa using Ne.symm hbp) (fun ho => K9.out.off ho (by decide)))
  have C10 : Hid (Chg w (w9.setCell ⟨b, 8, none⟩ (.slice q9 D6.length k9)) [b, p]) := C9.out.trans (cs.more (by simp)) (fun x hx _ => hx)
  clear cs S9 C9
  go_wp2_with fail
  go_end0
  have MD : (mM xs).data = D6 := by rw [MM.out]
  rw [ME.out, MD, E6.out]
  exact ⟨q9, k9, rfl, by rw [MM.out]; exact K10.out, by have := S10.out; rw [show 64 + 8 = 72 from rfl] at this; exact this, R9.out, F9.out, C10.out⟩
end Go.Proofs.YtcpoaalhpjipaaaDoor
namespace Go.Proofs.YtcpoaalhpjipaaaDoor
set_option maxRecDepth 100000
open Go.RowKit

def rOk (xs : List Int) : Bool := !(g6 xs) && decide (mEnd xs = xs.length)
theorem mOk_eq (xs : List Int) : mOk xs = (rOk xs && okM (mM xs)) := rfl
set_option maxHeartbeats 4000000 in
theorem read_any {w : World} {b : Nat} {vb : Value} {xs : List Int} (hr : Rd w vb xs) (hx : Bytes xs) (hl : xs.length ≤ 140737488355328) (hK : MgAt w b 30 mg0 none 0 0) :
    Calls Tryd.prog 36 #[vb, .iface 86 (.pointer (some ⟨b, 0, none⟩))] w fun e w' => ∃ q k, e = .returned (.bool (rOk xs)) ∧ MgAt w' b 30 (mM xs) q (mM xs).data.length k ∧ Rd w' (.slice q (mM xs).data.length k) (mM xs).data ∧ (∀ g, (Value.slice q (mM xs).data.length k).ownBlock = some g → w.heap.size ≤ g) ∧ Chg w w' [b] := by
  have BX := Lib.hid hx
  have KN := Lib.hid (NewReader_any hr hl)
  have K0 := Lib.hid hK
  have hbl := hK.lt
  have RK : Hid (rOk xs = (!(g6 xs) && decide (mEnd xs = xs.length))) := rfl
  obtain ⟨qv, cv, rfl⟩ := hr.len
  clear hr hx hK
  go_enter Tryd.func36, Tryd.ntmps36
  go_wp2_with fail
  refine KN.out.mono ?_
  rintro e w1 ⟨p, v1, rfl, hV, hp, hb1, -⟩
  have S1 := Lib.hid (RSt.mk0 hV)
  have K1 := Lib.hid (K0.out.on hb1)
  have B1 := Lib.hid hb1
  clear hV hb1 KN K0
  go_wp2_with fail
  refine (parse_any K1.out S1.out BX.out (by omega)).mono ?_
  rintro e w2 ⟨q, k, rfl, hK2, hS2, hR2, hF2, hC2⟩
  have K2 := Lib.hid hK2
  have R2 := Lib.hid hR2
  have F2 : Hid (∀ g, (Value.slice q (mM xs).data.length k).ownBlock = some g → w.heap.size ≤ g) := fun g hg => Nat.le_trans B1.out.size (hF2 g hg)
  have C2 : Hid (Chg w w2 [b]) := (Chg.below B1.out (Nat.le_refl _) [b]).trans hC2 (fun x hx hl => by simp at hx ⊢; omega)
  clear hK2 hR2 hF2 hC2 K1 S1 B1
  go_wp2_with fail
  refine (Done_st hS2).mono ?_
  rintro e w3 ⟨z, m, rfl, rfl, hz⟩
  have K3 := Lib.hid (show MgAt (w2.drewN m) b 30 (mM xs) q (mM xs).data.length k from K2.out)
  have R3 := Lib.hid (show Rd (w2.drewN m) (.slice q (mM xs).data.length k) (mM xs).data from R2.out)
  have C3 : Hid (Chg w (w2.drewN m) [b]) := C2.out.trans (show Chg w2 (w2.drewN m) [] from ⟨rfl, rfl, rfl, Nat.le_refl _, fun _ _ _ => rfl⟩) (fun x hx _ => by cases hx)
  have HZ : Hid ((z == 0) = rOk xs) := by
    show _ = _
    rw [RK.out]
    by_cases h : z = 0
    · obtain ⟨h1, h2⟩ := hz.1 h
      rw [h1, h]; simp [h2]
    · have h0 : (z == 0) = false := by simpa using h
      rw [h0]
      cases hg : g6 xs with
      | true => rfl
      | false =>
        have : ¬ mEnd xs = xs.length := fun e => h (hz.2 ⟨hg, e⟩)
        simp [this]
  clear hz hS2 K2 R2 C2
  go_wp2_with fail
  go_ret
  exact ⟨q, k, by first | rw [HZ.out]; rfl | rfl, K3.out, R3.out, F2.out, C3.out⟩

/-- What Get answers. -/
def GmP (xs : List Int) (w : World) (e : Ending) (w' : World) : Prop := ∃ q k, e = .returned (.tuple #[.agg (mgRow (mG xs) q (mG xs).data.length k).toArray, .int .i64 (mE xs)]) ∧ Rd w' (.slice q (mG xs).data.length k) (mG xs).data ∧ Below w.heap.size w w'
theorem GmP.no {xs : List Int} {w W : World} (h : mOk xs = false) (hb : Below w.heap.size w W) : GmP xs w (.returned (.tuple #[.agg (mgRow mg0 none 0 0).toArray, .int .i64 21])) W := by
  have e1 : mG xs = mg0 := by unfold mG; rw [if_neg (by rw [h]; simp)]
  have e2 : mE xs = 21 := by unfold mE; rw [if_neg (by rw [h]; simp)]
  exact ⟨none, 0, by rw [e1, e2]; rfl, by rw [e1]; exact Rd.nil W, hb⟩
theorem GmP.yes {xs : List Int} {w W : World} {q : Option Addr} {k : Nat} (h : mOk xs = true) (hr : Rd W (.slice q (mM xs).data.length k) (mM xs).data) (hb : Below w.heap.size w W) : GmP xs w (.returned (.tuple #[.agg (mgRow (mM xs) q (mM xs).data.length k).toArray, .int .i64 0])) W := by
  have e1 : mG xs = mM xs := if_pos h
  have e2 : mE xs = 0 := if_pos h
  exact ⟨q, k, by rw [e1, e2], by rw [e1]; exact hr, hb⟩
set_option maxHeartbeats 4000000 in
theorem GetMessage_any {w : World} {vb : Value} {xs : List Int} (hr : Rd w vb xs) (hx : Bytes xs) (hl : xs.length ≤ 140737488355328) :
    Calls Tryd.prog 12 #[vb] w (GmP xs w) := by
  have b1 : Below w.heap.size w (w.alloc (.cells (mgRow mg0 none 0 0).toArray 30)) := (Below.refl _ _).alloc (Nat.le_refl _) _
  have b2 : Below (w.alloc (.cells (mgRow mg0 none 0 0).toArray 30)).heap.size (w.alloc (.cells (mgRow mg0 none 0 0).toArray 30)) ((w.alloc (.cells (mgRow mg0 none 0 0).toArray 30)).alloc (.cells (mgRow mg0 none 0 0).toArray 30)) := (Below.refl _ _).alloc (Nat.le_refl _) _
  have hz : (w.alloc (.cells (mgRow mg0 none 0 0).toArray 30)).heap.size = w.heap.size + 1 := by simp
  have R0 := Lib.hid ((MgAt.new w 30 mg0 none 0 0).on b2)
  have K0 := MgAt.new (w.alloc (.cells (mgRow mg0 none 0 0).toArray 30)) 30 mg0 none 0 0
  rw [hz] at K0
  have B0 := Lib.hid (b1.trans (b2.mono b1.size))
  have KR := Lib.hid (read_any (hr.on B0.out) hx hl K0)
  have MK := Lib.hid (mOk_eq xs)
  have e0 : decide ((mM xs).gas ≤ 65536 ∧ (mM xs).data.length ≤ 64) = okM (mM xs) := rfl
  have KRM := fun (W : World) (q : Option Addr) (k : Nat) => RightMessage_any (w := W) (m := mM xs) (q := q) (n := (mM xs).data.length) (k := k) (mM_ok hx).gas (by have := mM_len xs; unfold maxLen; omega)
  rw [e0] at KRM
  have KRH := Lib.hid KRM
  have NO := Lib.hid (fun (h : mOk xs = false) (W : World) (hb : Below w.heap.size w W) => GmP.no h hb)
  have YES := Lib.hid (fun (h : mOk xs = true) (W : World) (q : Option Addr) (k : Nat) (hr : Rd W (.slice q (mM xs).data.length k) (mM xs).data) (hb : Below w.heap.size w W) => GmP.yes h hr hb)
  obtain ⟨QP, hQP⟩ : ∃ QP, GmP xs w = QP := ⟨_, rfl⟩
  rw [hQP] at NO YES ⊢
  obtain ⟨m, hm⟩ : ∃ m, mM xs = m := ⟨_, rfl⟩
  rw [hm] at KR MK KRH YES
  obtain ⟨ok, hok⟩ : ∃ ok, okM m = ok := ⟨_, rfl⟩
  rw [hok] at KRH MK
  obtain ⟨r, hrr⟩ : ∃ r, rOk xs = r := ⟨_, rfl⟩
  rw [hrr] at KR MK
  obtain ⟨mo, hmo⟩ : ∃ mo, mOk xs = mo := ⟨_, rfl⟩
  rw [hmo] at MK NO YES
  obtain ⟨qv, cv, rfl⟩ := hr.len
  have SZ : Hid (((w.alloc (.cells (mgRow mg0 none 0 0).toArray 30)).alloc (.cells (mgRow mg0 none 0 0).toArray 30)).heap.size = w.heap.size + 2) := by show _ = _; simp
  clear hr hx b1 b2 hz K0 e0 KRM hQP hm hok hrr hmo
  go_enter Tryd.func12, Tryd.ntmps12
  go_wp2_with fail
  generalize ((w.alloc (.cells (mgRow mg0 none 0 0).toArray 30)).alloc (.cells (mgRow mg0 none 0 0).toArray 30)) = w0 at *
  refine KR.out.mono ?_
  rintro e w1 ⟨q, k, rfl, hK1, hR1, hF1, hC1⟩
  have R1 := Lib.hid (R0.out.chg hC1 (by simp))
  have B1 : Hid (Below w.heap.size w w1) := Lib.hid (B0.out.trans (hC1.toBelow B0.out.size (fun g hg => by simp at hg; omega)))
  have K1 := Lib.hid hK1
  have D1 := Lib.hid hR1
  have NB : Hid (w.heap.size + 1 < w0.heap.size) := Nat.lt_of_lt_of_le (show w.heap.size + 1 < w.heap.size + 2 by omega) (Nat.le_of_eq SZ.out.symm)
  have F1 := Lib.hid hF1
  have hrow := hK1.row
  have h9 := mgRow_len m q m.data.length k
  clear hK1 hR1 hF1 hC1 KR R0 B0
  cases r with
  | false =>
    have E := Lib.hid (NO.out (by rw [MK.out]; rfl))
    have th := R1.out.there
    have hput := (R1.out.put mg0 none 0 0).row
    have BX := Lib.hid (below_setCells' (w.heap.size) (Nat.le_refl _) (mgRow mg0 none 0 0) 0 B1.out)
    clear NO YES MK KRH
    go_wp2_with fail
    refine bodyPost_ret (v := .tuple #[.agg (mgRow mg0 none 0 0).toArray, .int .i64 21]) (by simp [results, Tryd.results12, go_sem, hput]) rfl (E.out _ BX.out)
  | true =>
    go_wp2_with fail
    refine (KRH.out w1 q k).mono ?_
    rintro e w2 ⟨rfl, hb2⟩
    have R2 := Lib.hid (R1.out.on hb2)
    have B2 := Lib.hid (B1.out.trans (hb2.mono B1.out.size))
    have K2 := Lib.hid (K1.out.on hb2)
    have D2 := Lib.hid (D1.out.on hb2)
    have hrow := K2.out.row
    have th := R2.out.there
    clear hb2 K1 R1 B1 D1 KRH
    cases ok with
    | false =>
      have E := Lib.hid (NO.out (by rw [MK.out]; rfl))
      have hput := (R2.out.put mg0 none 0 0).row
      have BX := Lib.hid (below_setCells' (w.heap.size) (Nat.le_refl _) (mgRow mg0 none 0 0) 0 B2.out)
      clear NO YES MK
      go_wp2_with fail
      refine bodyPost_ret (v := .tuple #[.agg (mgRow mg0 none 0 0).toArray, .int .i64 21]) (by simp [results, Tryd.results12, go_sem, hput]) rfl (E.out _ BX.out)
    | true =>
      have hput := (R2.out.put m q m.data.length k).row
      have BX := Lib.hid (below_setCells' (w.heap.size) (Nat.le_refl _) (mgRow m q m.data.length k) 0 B2.out)
      have DX : Hid (Rd (w2.setCells w.heap.size 0 (mgRow m q m.data.length k)) (.slice q m.data.length k) m.data) := D2.out.chg (S := [w.heap.size]) (chg_setCells _ _ _ (Chg.refl _ _)) (fun _ g hg _ hm => by
        obtain rfl : g = w.heap.size := by simpa using hm
        have := F1.out _ hg
        have := NB.out
        omega)
      have E := Lib.hid (YES.out (by rw [MK.out]; rfl) _ q k DX.out BX.out)
      clear NO YES MK D2 DX BX
      go_wp2_with fail
      refine bodyPost_ret (v := .tuple #[.agg (mgRow m q m.data.length k).toArray, .int .i64 0]) (by simp [results, Tryd.results12, go_sem, hput]) rfl E.out
end Go.Proofs.YtcpoaalhpjipaaaDoor
