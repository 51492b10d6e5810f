/-
  The walks of package codec: NewWriter, Bytes, Blob.
-/
import Derived.Test.YtigpiejjblfenaaCodecW
namespace Go.Proofs.Ytigpiejjblfenaa
set_option maxRecDepth 100000
open Go.RowKit

theorem NewWriter_any (w : World) : Calls Try.prog 7 #[] w fun e w' => e = .returned (.pointer (some ⟨w.heap.size, 0, none⟩)) ∧ w' = w.alloc (.cells #[.bool true, .slice none 0 0] 54) := by
  go_enter Try.func7, Try.ntmps7
  go_wp2_with fail
  go_ret
  exact ⟨rfl, rfl⟩
theorem WrV.new (w : World) : WrV (w.alloc (.cells #[.bool true, .slice none 0 0] 54)) w.heap.size (.slice none 0 0) [] :=
  ⟨heap_alloc_new w _, World.ownsRow_nil _ 0 _ 1⟩

/-- A new slice of the bytes xs, in memory of its own. -/
def NewRow (w : World) (xs : List Int) (v : Value) (w' : World) : Prop :=
  (∃ q c, v = .slice q xs.length c) ∧ w'.ownsRow 0 5 1 v xs.length (bc xs) ∧ Below w.heap.size w w' ∧ ∀ k, v.ownBlock = some k → w.heap.size ≤ k
theorem NewRow.rd {w w' : World} {xs : List Int} {v : Value} (h : NewRow w xs v w') : Rd w' v xs := rd_of_row h.2.1

set_option maxHeartbeats 1000000 in
theorem WBytes_any {w : World} {p : Nat} {v : Value} {xs : List Int} (h : WrV w p v xs) (hl : xs.length ≤ 65536) :
    Calls Try.prog 12 #[.pointer (some ⟨p, 0, none⟩)] w fun e w' => ∃ u, e = .returned u ∧ NewRow w xs u w' := by
  obtain ⟨i0, hi, hz0, hz1, hz2⟩ := info_parts Try.infoU8
  obtain ⟨qv, kv, rfl⟩ := h.rd.len
  obtain ⟨c0, c1, -⟩ := h.cells
  have hs := Lib.hid (h.rd.src (P := Try.prog) Try.underlying26)
  clear h
  replace hi := Lib.hid hi
  replace hz0 := Lib.hid hz0
  replace hz1 := Lib.hid hz1
  replace hz2 := Lib.hid hz2
  go_enter Try.func12, Try.ntmps12
  go_wp2_with (at_builtin; refine wpList_append_row rfl _ _ rfl Try.underlying26 hi.out hz0.out hz1.out hz2.out rfl (World.ownsRow_nil w 0 _ 1) hs.out ?b1 ?b2 ?_)
  case b1 => unfold maxLen; omega
  case b2 => omega
  intro q2 k2 w2 own2 grow2 fr2
  try simp only [Nat.zero_add, List.nil_append] at own2
  try simp only [Nat.zero_add, List.nil_append] at fr2
  try simp only [Nat.zero_add]
  have H2 := Lib.hid own2
  have HB := Lib.hid ((Below.refl w.heap.size w).grown grow2 (Nat.le_refl _) (by intro k hk; simp [Value.ownBlock] at hk))
  have HF : Hid (∀ k, (Value.slice q2 xs.length k2).ownBlock = some k → w.heap.size ≤ k) := fun k hk => by
    rcases fr2 with e | e
    · rw [e] at hk; simp [Value.ownBlock] at hk
    · rw [e] at hk; simp at hk; omega
  clear own2 grow2 fr2 c0 c1 hs
  go_wp2_with fail
  go_ret
  exact ⟨_, rfl, ⟨_, _, rfl⟩, H2.out, HB.out, HF.out⟩

/-! ### Lists of slices -/
/-- The slice v holds slices that read as these, none of them in a block of S. -/
def RdL (w : World) (v : Value) (L : List (List Int)) (S : List Nat) : Prop := ∃ q c, v = .slice q L.length c ∧ (L = [] ∨ ∃ b off, q = some ⟨b, off, none⟩ ∧ b ∉ S ∧
  ∀ i, i < L.length → ∃ u, w.cell? ⟨b, off + i, none⟩ = some u ∧ Rd w u (L.getD i []) ∧ (L.getD i [] ≠ [] → ∀ k, u.ownBlock = some k → k ∉ S))
theorem RdL.chg {w w' : World} {v : Value} {L : List (List Int)} {S : List Nat} (h : RdL w v L S) (hc : Chg w w' S) : RdL w' v L S := by
  obtain ⟨q, c, rfl, hq | ⟨b, off, rfl, hb, hx⟩⟩ := h
  · exact ⟨q, c, rfl, .inl hq⟩
  · refine ⟨_, c, rfl, .inr ⟨b, off, rfl, hb, fun i hi => ?_⟩⟩
    obtain ⟨u, h1, h2, h3⟩ := hx i hi
    have hl := lt_of_cell h1
    exact ⟨u, by rw [World.cell?_of_block (w := w) (hc.block b hl hb)]; exact h1, h2.chg hc (fun hn k hk _ => h3 hn k hk), h3⟩
theorem RdL.at {w : World} {q : Option Addr} {n c : Nat} {L : List (List Int)} {S : List Nat} (h : RdL w (.slice q n c) L S) {i : Nat} (hi : i < L.length) :
    ∃ b off r m k, n = L.length ∧ q = some ⟨b, off, none⟩ ∧ b ∉ S ∧ w.cell? ⟨b, off + i, none⟩ = some (.slice r m k) ∧ m = (L.getD i []).length ∧ Rd w (.slice r m k) (L.getD i []) ∧ (L.getD i [] ≠ [] → ∀ x, (Value.slice r m k).ownBlock = some x → x ∉ S) := by
  obtain ⟨q', c', e, rfl | ⟨b, off, rfl, hb, hx⟩⟩ := h
  · simp at hi
  · obtain ⟨u, h1, h2, h3⟩ := hx i hi
    obtain ⟨r, k, rfl⟩ := h2.len
    simp only [Value.slice.injEq] at e
    exact ⟨b, off, r, _, k, e.2.1, e.1, hb, h1, rfl, h2, h3⟩

/-- The bytes of blobs. -/
def blobs (L : List (List Int)) : List Int := L.flatMap fun b => be8 b.length ++ b
theorem blobs_take {L : List (List Int)} {i : Nat} (hi : i < L.length) : blobs (L.take (i + 1)) = blobs (L.take i) ++ be8 (L.getD i []).length ++ L.getD i [] := by
  have e : L.take (i + 1) = L.take i ++ [L.getD i []] := by
    rw [List.take_add_one]
    simp [List.getD, hi]
  rw [e, blobs, List.flatMap_append]
  simp [blobs]
theorem blobs_le (L : List (List Int)) (i : Nat) : (blobs (L.take i)).length ≤ (blobs L).length := by
  have e : blobs L = blobs (L.take i) ++ blobs (L.drop i) := by
    conv => lhs; rw [← List.take_append_drop i L]
    rw [blobs, List.flatMap_append]; rfl
  rw [e]; simp
theorem blobs_len {L : List (List Int)} {i : Nat} (hi : i < L.length) : (blobs (L.take (i + 1))).length = (blobs (L.take i)).length + 8 + (L.getD i []).length := by
  rw [blobs_take hi]; simp; omega
theorem blobs_many : ∀ L : List (List Int), L.length ≤ (blobs L).length
  | [] => by simp
  | b :: L => by have := blobs_many L; simp [blobs] at this ⊢; omega
theorem WSt.of_eq {w wr : World} {p : Nat} {v : Value} {xs ys : List Int} (h : WSt w p v wr xs) (e : xs = ys) : WSt w p v wr ys := e ▸ h
theorem WSt.own {w wr : World} {p : Nat} {v : Value} {xs : List Int} (h : WSt w p v wr xs) : ∃ q c, WrV wr p (.slice q xs.length c) xs ∧ Chg w wr (p :: v.ownBlock.toList) ∧ ((Value.slice q xs.length c).ownBlock = v.ownBlock ∨ ∀ g, (Value.slice q xs.length c).ownBlock = some g → w.heap.size ≤ g) := by
  obtain ⟨v', h1, h2, h3⟩ := h
  obtain ⟨q, c, rfl⟩ := h1.rd.len
  exact ⟨q, c, h1, h2, h3⟩

set_option maxHeartbeats 4000000 in
theorem WBlob_fits {w : World} {p : Nat} {v : Value} {xs : List Int} (h : WrV w p v xs) {a : Value} {L : List (List Int)} (hL : RdL w a L (p :: v.ownBlock.toList)) (hl : xs.length + (blobs L).length ≤ 65536) :
    Calls Try.prog 21 #[.pointer (some ⟨p, 0, none⟩), a] w fun e w' => e = .returned (.int .i64 0) ∧ WSt w p v w' (xs ++ blobs L) := by
  obtain ⟨i0, hi, hz0, hz1, hz2⟩ := info_parts Try.infoU8
  have H0 : Hid (WSt w p v w (xs ++ blobs (L.take 0))) := by
    show WSt w p v w _
    exact (WSt.start h).of_eq (by simp [blobs])
  obtain ⟨c0, c1, -⟩ := h.cells
  obtain ⟨qv, kv, rfl⟩ := h.rd.len
  obtain ⟨q, c, rfl⟩ : ∃ q c, a = .slice q L.length c := by obtain ⟨q, c, e, _⟩ := hL; exact ⟨q, c, e⟩
  have HL := Lib.hid hL
  clear h hL
  replace hi := Lib.hid hi
  replace hz0 := Lib.hid hz0
  replace hz1 := Lib.hid hz1
  replace hz2 := Lib.hid hz2
  have hb0 := blobs_le L 0
  have hlx : xs.length ≤ 65536 := by omega
  have hLn : L.length ≤ 65536 := by have := blobs_many L; omega
  go_enter Try.func21, Try.ntmps21
  go_wp2_with fail
  go_loopw [5, 7, 29] (fun lv _ iv wr => ∃ i : Nat, iv = .int .i64 i ∧ i ≤ L.length ∧ lv = .int .i64 (65536 - (xs.length : Int) - ((blobs (L.take i)).length : Int)) ∧ wr = w) (fun _ _ iv _ => L.length - (intOf iv).toNat)
  case atStart => exact ⟨0, rfl, by omega, by simp [blobs], rfl⟩
  case round =>
    obtain ⟨i, rfl, hil, rfl, rfl⟩ := hrel
    have hbi := blobs_le L i
    by_cases hlt : i < L.length
    · obtain ⟨b, off, r, m, k, -, rfl, -, hc, rfl, -, -⟩ := HL.out.at hlt
      have hbs := blobs_len hlt
      have hbl := blobs_le L (i + 1)
      have HE := Lib.hid hbs
      have g1 : ((blobs (L.take i)).length : Int) + 8 + ((L.getD i []).length : Int) + (xs.length : Int) ≤ 65536 := by omega
      clear hbs hbl
      generalize hbb : (L.getD i []).length = lb at hc g1 HE ⊢
      go_wp2_with fail
      go_roundw
      case rel => exact ⟨i + 1, by go_num, by omega, by rw [HE.out]; congr 1; omega, trivial⟩
      case measure => simp [intOf]; omega
    · obtain rfl : i = L.length := by omega
      clear hlt c0 c1
      generalize (65536 - (xs.length : Int) - ((blobs (L.take L.length)).length : Int)) = lv
      obtain ⟨w0, rfl⟩ : ∃ w0 : World, w0 = wr := ⟨_, rfl⟩
      go_wp2_with fail
      go_loopw [9, 46] (fun _ iv wr => ∃ i : Nat, iv = .int .i64 i ∧ i ≤ L.length ∧ Hid (WSt w0 p (.slice qv xs.length kv) wr (xs ++ blobs (L.take i)))) (fun _ iv _ => L.length - (intOf iv).toNat)
      case atStart => exact ⟨0, rfl, by omega, H0⟩
      case round =>
        clear H0
        obtain ⟨i, rfl, hil, hS⟩ := hrel
        by_cases hlt : i < L.length
        · obtain ⟨q1, k1, h1, h2, h3⟩ := hS.out.own
          have hbl := blobs_le L i
          obtain ⟨b, off, r, m, k, -, rfl, hbS, hcw, rfl, hrd, hk⟩ := HL.out.at hlt
          have hc : wr.cell? ⟨b, off + i, none⟩ = some (.slice r (L.getD i []).length k) := by
            rw [World.cell?_of_block (w := w0) (h2.block b (lt_of_cell hcw) hbS)]; exact hcw
          have HR := Lib.hid hrd
          have HK := Lib.hid hk
          clear hcw hbS
          have hbi : xs.length + (blobs (L.take i)).length ≤ 65536 := by omega
          have hlen : (xs ++ blobs (L.take i)).length ≤ 65536 := by simp; omega
          have H1 := Lib.hid h1
          have H23 := Lib.hid (And.intro h2 h3)
          have HS := Lib.hid hS.out
          clear h1 h2 h3 hS hrd hk
          have HB := Lib.hid (blobs_take hlt)
          have hbm := blobs_len hlt
          have hbm2 := blobs_le L (i + 1)
          have hlb : (L.getD i []).length ≤ 65536 := by omega
          have hfit : xs.length + (blobs (L.take i)).length + 8 + (L.getD i []).length ≤ 65536 := by omega
          clear hbm hbm2 hbl
          generalize hbb : L.getD i [] = bb at *
          clear hbb
          go_wp2_with fail
          refine (putUint_any H1.out hlen _).mono ?_
          rintro e w3 ⟨rfl, hw3⟩
          have HS3 : Hid (WSt w0 p (.slice qv xs.length kv) w3 (xs ++ blobs (L.take i) ++ be8 bb.length)) := by
            obtain ⟨u1, u2, u3⟩ := H23.out.1, H23.out.2, hw3
            exact WSt.trans ⟨_, H1.out, H23.out.1, H23.out.2⟩ (fun u hu => by
              obtain ⟨qq, cc, he⟩ := hu.rd.len
              have e1 : u = .slice q1 (xs ++ blobs (L.take i)).length k1 := by
                have := hu.cells.2.1
                rw [H1.out.cells.2.1] at this
                exact (Option.some.inj this).symm
              rw [e1]
              exact hw3)
          have hys0 : (xs ++ blobs (L.take i) ++ be8 bb.length).length + bb.length ≤ 65536 := by simp; omega
          generalize hys : xs ++ blobs (L.take i) ++ be8 bb.length = ys at HS3 hys0
          replace hys := Lib.hid hys
          obtain ⟨q3, k3, h31, h32, h33⟩ := HS3.out.own
          obtain ⟨-, c1, -⟩ := h31.cells
          have hRb := Lib.hid (HR.out.chg h32 (fun hn x hx _ => HK.out hn x hx))
          have H3 := Lib.hid h31
          have H3c := Lib.hid (And.intro h32 h33)
          have hp3 := h31.lt
          clear h31 h32 h33 hw3 HS3 H1 H23 hc
          go_wp2_with (at_builtin; refine wpList_append_row rfl _ _ rfl Try.underlying26 hi.out hz0.out hz1.out hz2.out rfl H3.out.own (Rd.src (P := Try.prog) Try.underlying26 hRb.out) ?b1 ?b2 ?_)
          case b1 => unfold maxLen; omega
          case b2 => omega
          intro q4 k4 w4 own4 grow4 fr4
          have HN := Lib.hid (WSt.step H3.out H3c.out.1 H3c.out.2 rfl own4 grow4 fr4)
          have c4 : w4.cell? ⟨p, 1, none⟩ = some (.slice q3 ys.length k3) := by
            rw [World.cell?_of_block (grow4.block p hp3 (fun e => H3.out.ne e.symm))]; exact c1
          have f4 : w4.frozen? ⟨p, 1, none⟩ = false := by
            rw [World.frozen?_of_block (grow4.block p hp3 (fun e => H3.out.ne e.symm))]; exact H3.out.cells.2.2
          clear own4 grow4 fr4 c1
          go_wp2_with fail
          go_roundw
          case rel =>
            refine ⟨i + 1, by go_num, by omega, ?_⟩
            show WSt w0 p _ _ _
            rw [HB.out, ← List.append_assoc, ← List.append_assoc, hys.out]
            exact HN.out
          case measure => simp [intOf]; omega
        · obtain rfl : i = L.length := by omega
          have hb := hS.out
          rw [List.take_length] at hb
          replace hS := Lib.hid hb
          clear hb
          go_wp2_with fail
          go_ret
          exact ⟨rfl, hS.out⟩
end Go.Proofs.Ytigpiejjblfenaa
