/-
  Slices of elements of whole numbers; items with their numbers; the writer's calls where there is no room.
-/
import Derived.Test.YtigpiejjblfenaaCodecN3
import Derived.Test.YtigpiejjblfenaaCodecH
import Derived.Test.YtigpiejjblfenaaCodecWe
import Derived.Test.YtigpiejjblfenaaRcell
namespace Go.Proofs.Ytigpiejjblfenaa
set_option maxRecDepth 100000
open Go.RowKit

/-- The slice v holds n elements of k cells, the numbers zs, and lies in no block of S. -/
def RdZ (w : World) (v : Value) (kd : IntKind) (k n : Nat) (zs : List Int) (S : List Nat) : Prop :=
  ∃ q c, v = .slice q n c ∧ zs.length = n * k ∧ (n = 0 ∨ ∃ b off, q = some ⟨b, off, none⟩ ∧ b ∉ S ∧ b < w.heap.size ∧ ∀ j, j < zs.length → w.cell? ⟨b, off + j, none⟩ = some (.int kd (zs.getD j 0)))
section
variable {w w' : World} {v : Value} {kd : IntKind} {k n : Nat} {zs : List Int} {S : List Nat}
theorem RdZ.on (h : RdZ w v kd k n zs S) (hb : Below w.heap.size w w') : RdZ w' v kd k n zs S := by
  obtain ⟨q, c, rfl, h1, h2⟩ := h
  refine ⟨q, c, rfl, h1, ?_⟩
  rcases h2 with h2 | ⟨b, off, rfl, hS, hl, h2⟩
  · exact .inl h2
  · exact .inr ⟨b, off, rfl, hS, Nat.lt_of_lt_of_le hl hb.size, fun j hj => (hb.cell (lt_of_cell (h2 j hj))).trans (h2 j hj)⟩
theorem RdZ.len (h : RdZ w v kd k n zs S) : ∃ q c, v = .slice q n c := by obtain ⟨q, c, e, _⟩ := h; exact ⟨q, c, e⟩
theorem RdZ.rdc (h : RdZ w v kd k n zs S) : Rdc w v k n (zs.map (Value.int kd)) := by
  obtain ⟨q, c, rfl, h1, h2⟩ := h
  refine ⟨q, c, rfl, by simpa using h1, fun u hu => ?_, ?_⟩
  · obtain ⟨x, _, rfl⟩ := List.mem_map.1 hu; rfl
  · rcases h2 with h2 | ⟨b, off, rfl, hS, hl, h2⟩
    · exact .inl h2
    · refine .inr ⟨_, rfl, fun j u hu => ?_⟩
      rw [List.getElem?_map, Option.map_eq_some_iff] at hu
      obtain ⟨x, hx, rfl⟩ := hu
      obtain ⟨hj, e⟩ := List.getElem?_eq_some_iff.1 hx
      rw [addr_add, h2 j hj]
      simp [List.getD, hj, e]
theorem RdZ.of_own {e : TypeId} (h : w.ownsRow 0 e k v n (zs.map (Value.int kd))) (hS : ∀ g, v.ownBlock = some g → g ∉ S) : RdZ w v kd k n zs S := by
  obtain ⟨q, c, rfl⟩ := own_slice h
  refine ⟨q, c, rfl, by simpa using h.1, ?_⟩
  rcases h.2 with ⟨_, h0⟩ | ⟨g, cap, cur, e1, _⟩
  · exact .inl h0
  · simp only [Value.slice.injEq] at e1
    obtain ⟨rfl, -, -⟩ := e1
    refine .inr ⟨g, 0, rfl, hS g rfl, own_lt h rfl, fun j hj => ?_⟩
    have := h.cells (g := g) rfl j (.int kd (zs.getD j 0)) (by simp [List.getD, hj])
    rw [addr_add] at this
    exact this
theorem RdZ.nums (h : RdZ w v .u64 1 n zs S) : RdN w v zs S := by
  obtain ⟨q, c, rfl, h1, h2⟩ := h
  rw [Nat.mul_one] at h1
  subst h1
  refine ⟨q, c, rfl, ?_⟩
  rcases h2 with h2 | ⟨b, off, rfl, hS, hl, h2⟩
  · exact .inl (List.eq_nil_of_length_eq_zero h2)
  · exact .inr ⟨b, off, rfl, hS, h2⟩
end
def wsOf (n : Nat) (zs : List Int) : List W4 := (List.range n).map fun i => ⟨zs.getD (i * 4) 0, zs.getD (i * 4 + 1) 0, zs.getD (i * 4 + 2) 0, zs.getD (i * 4 + 3) 0⟩
def hsOf (n : Nat) (zs : List Int) : List (List Int) := (List.range n).map fun i => (zs.drop (i * 32)).take 32
theorem wsOf_len (n : Nat) (zs : List Int) : (wsOf n zs).length = n := by simp [wsOf]
theorem hsOf_len (n : Nat) (zs : List Int) : (hsOf n zs).length = n := by simp [hsOf]
theorem wsOf_get {n : Nat} {zs : List Int} {i : Nat} (h : i < n) : (wsOf n zs).getD i w0 = ⟨zs.getD (i * 4) 0, zs.getD (i * 4 + 1) 0, zs.getD (i * 4 + 2) 0, zs.getD (i * 4 + 3) 0⟩ := by simp [wsOf, List.getD, h]
theorem hsOf_get {n : Nat} {zs : List Int} {i : Nat} (h : i < n) : (hsOf n zs).getD i [] = (zs.drop (i * 32)).take 32 := by simp [hsOf, List.getD, h]
theorem hsOf_get_len {n : Nat} {zs : List Int} (hz : zs.length = n * 32) {i : Nat} (h : i < n) : ((hsOf n zs).getD i []).length = 32 := by
  rw [hsOf_get h]; simp; omega
theorem flat_const {k : Nat} : ∀ {L : List (List Int)}, (∀ x ∈ L, x.length = k) → L.flatten.length = L.length * k
  | [], _ => by simp
  | x :: L, h => by
    have := flat_const (L := L) (fun y hy => h y (by simp [hy]))
    simp only [List.flatten_cons, List.length_append, List.length_cons, this, h x (by simp)]
    rw [Nat.add_mul]; omega
theorem hsOf_flat {n : Nat} {zs : List Int} (hz : zs.length = n * 32) : (hsOf n zs).flatten.length = n * 32 := by
  rw [flat_const (k := 32), hsOf_len]
  intro x hx
  simp only [hsOf, List.mem_map, List.mem_range] at hx
  obtain ⟨i, hi, rfl⟩ := hx
  simp; omega
section
variable {w w' : World} {v : Value} {n : Nat} {zs : List Int} {S : List Nat}
theorem RdZ.wides (h : RdZ w v .u64 4 n zs S) (hz : ∀ z ∈ zs, 0 ≤ z ∧ z < B) : RdW w v (wsOf n zs) S := by
  obtain ⟨q, c, rfl, h1, h2⟩ := h
  refine ⟨q, c, by rw [wsOf_len], ?_⟩
  rcases h2 with rfl | ⟨b, off, rfl, hS, hl, h2⟩
  · exact .inl rfl
  · refine .inr ⟨b, off, rfl, hS, fun i hi => ?_⟩
    rw [wsOf_len] at hi
    have hm : ∀ j, j < zs.length → 0 ≤ zs.getD j 0 ∧ zs.getD j 0 < B := fun j hj => by
      rw [show zs.getD j 0 = zs[j] by simp [List.getD, hj]]; exact hz _ (List.getElem_mem hj)
    rw [wsOf_get hi]
    refine ⟨⟨hm _ (by omega), hm _ (by omega), hm _ (by omega), hm _ (by omega)⟩, h2 (i * 4) (by omega), by have := h2 (i * 4 + 1) (by omega); rw [← Nat.add_assoc] at this; exact this, by have := h2 (i * 4 + 2) (by omega); rw [← Nat.add_assoc] at this; exact this, by have := h2 (i * 4 + 3) (by omega); rw [← Nat.add_assoc] at this; exact this⟩
theorem RdZ.hashes (h : RdZ w v .u8 32 n zs S) : RdH w v (hsOf n zs) S := by
  obtain ⟨q, c, rfl, h1, h2⟩ := h
  refine ⟨q, c, by rw [hsOf_len], ?_⟩
  rcases h2 with rfl | ⟨b, off, rfl, hS, hl, h2⟩
  · exact .inl rfl
  · refine .inr ⟨b, off, rfl, hS, fun i hi => ?_⟩
    rw [hsOf_len] at hi
    have hl32 := hsOf_get_len h1 hi
    refine ⟨hl, hl32, ?_⟩
    have := rowOf_cells (w := w) (b := b) (o := off + i * 32) (F := (hsOf n zs).getD i []) (fun j hj => by
      rw [hl32] at hj
      rw [Nat.add_assoc, h2 _ (by omega), hsOf_get hi]
      simp [List.getD, hj])
    rw [hl32] at this
    exact this
end

/-- An item, as numbers. -/
structure It where
  k : Int
  us : List Int
  nw : Nat
  zw : List Int
  nh : Nat
  zh : List Int
  bs : List (List Int)
def It.bytes (x : It) : List Int := if x.k = 0 then nums x.us else if x.k = 1 then wides (wsOf x.nw x.zw) else if x.k = 2 then (hsOf x.nh x.zh).flatten else blobs x.bs
/-- Cells that are an item. -/
structure ItR (w : World) (cs : List Value) (x : It) : Prop where
  form : ∃ vu vw vh vb, cs = [.int .i64 x.k, vu, vw, vh, vb] ∧ RdZ w vu .u64 1 x.us.length x.us [] ∧ RdZ w vw .u64 4 x.nw x.zw [] ∧ RdZ w vh .u8 32 x.nh x.zh [] ∧ RdL w vb x.bs []
  s1 : x.us.length * 8 ≤ 140737488355328
  s2 : x.nw * 32 ≤ 140737488355328
  s3 : x.nh * 32 ≤ 140737488355328
  s4 : x.bs.length * 24 ≤ 140737488355328
  s5 : ∀ i, (x.bs.getD i []).length ≤ 140737488355328
  z1 : ∀ z ∈ x.us, 0 ≤ z ∧ z < B
  z2 : ∀ z ∈ x.zw, 0 ≤ z ∧ z < B
  z3 : Bytes x.zh
  z4 : ∀ b ∈ x.bs, Bytes b
theorem ItR.on {w w' : World} {cs : List Value} {x : It} (h : ItR w cs x) (hb : Below w.heap.size w w') : ItR w' cs x := by
  obtain ⟨vu, vw, vh, vb, e, r1, r2, r3, r4⟩ := h.form
  exact ⟨⟨vu, vw, vh, vb, e, r1.on hb, r2.on hb, r3.on hb, r4.chg (Chg.below hb (Nat.le_refl _) [])⟩, h.s1, h.s2, h.s3, h.s4, h.s5, h.z1, h.z2, h.z3, h.z4⟩

/-! ### No room -/
theorem room_no {w : World} {p : Nat} {v : Value} {xs : List Int} (h : WrV w p v xs) (hx : xs.length ≤ 65536) {n s : Nat} (hs : 0 < s) (hn : n ≤ 140737488355328) (hl : 65536 < xs.length + n * s) :
    Calls Try.prog 34 #[.pointer (some ⟨p, 0, none⟩), .int .i64 n, .int .i64 s] w fun e w' => e = .returned (.bool false) ∧ w' = w := by
  obtain ⟨c0, c1, -⟩ := h.cells
  obtain ⟨qv, kv, rfl⟩ := h.rd.len
  go_enter Try.func34, Try.ntmps34
  have hd : decide ((n : Int) ≤ (65536 - (xs.length : Int)) / (s : Int)) = false := by
    refine decide_eq_false fun hle => ?_
    have h1 := Int.mul_le_of_le_ediv (by omega) hle
    have : 65536 - (xs.length : Int) < ((n * s : Nat) : Int) := by omega
    rw [Int.natCast_mul] at this
    omega
  go_wp2_with fail
  go_ret
  exact ⟨rfl, rfl⟩

set_option maxHeartbeats 1000000 in
theorem WUint_full {w : World} {p : Nat} {v : Value} {xs : List Int} (h : WrV w p v xs) (hx : xs.length ≤ 65536) {q : Option Addr} {n c : Nat} (hn : n ≤ 140737488355328) (hl : 65536 < xs.length + n * 8) :
    Calls Try.prog 25 #[.pointer (some ⟨p, 0, none⟩), .slice q n c] w fun e w' => e = .returned (.int .i64 6) ∧ w' = w := by
  obtain ⟨c0, c1, -⟩ := h.cells
  have hroom := Lib.hid (room_no h hx (n := n) (s := 8) (by omega) hn hl)
  obtain ⟨qv, kv, rfl⟩ := h.rd.len
  clear h
  go_enter Try.func25, Try.ntmps25
  go_wp2_with fail
  refine (hroom.out).mono ?_
  rintro e wx ⟨rfl, rfl⟩
  go_wp2_with fail
  go_ret
  exact ⟨rfl, rfl⟩

set_option maxHeartbeats 1000000 in
theorem WWide_full {w : World} {p : Nat} {v : Value} {xs : List Int} (h : WrV w p v xs) (hx : xs.length ≤ 65536) {q : Option Addr} {n c : Nat} (hn : n ≤ 140737488355328) (hl : 65536 < xs.length + n * 32) :
    Calls Try.prog 26 #[.pointer (some ⟨p, 0, none⟩), .slice q n c] w fun e w' => e = .returned (.int .i64 6) ∧ w' = w := by
  obtain ⟨c0, c1, -⟩ := h.cells
  have hroom := Lib.hid (room_no h hx (n := n) (s := 32) (by omega) hn hl)
  obtain ⟨qv, kv, rfl⟩ := h.rd.len
  clear h
  go_enter Try.func26, Try.ntmps26
  go_wp2_with fail
  refine (hroom.out).mono ?_
  rintro e wx ⟨rfl, rfl⟩
  go_wp2_with fail
  go_ret
  exact ⟨rfl, rfl⟩

set_option maxHeartbeats 1000000 in
theorem WHash_full {w : World} {p : Nat} {v : Value} {xs : List Int} (h : WrV w p v xs) (hx : xs.length ≤ 65536) {q : Option Addr} {n c : Nat} (hn : n ≤ 140737488355328) (hl : 65536 < xs.length + n * 32) :
    Calls Try.prog 27 #[.pointer (some ⟨p, 0, none⟩), .slice q n c] w fun e w' => e = .returned (.int .i64 6) ∧ w' = w := by
  obtain ⟨c0, c1, -⟩ := h.cells
  have hroom := Lib.hid (room_no h hx (n := n) (s := 32) (by omega) hn hl)
  obtain ⟨qv, kv, rfl⟩ := h.rd.len
  clear h
  go_enter Try.func27, Try.ntmps27
  go_wp2_with fail
  refine (hroom.out).mono ?_
  rintro e wx ⟨rfl, rfl⟩
  go_wp2_with fail
  go_ret
  exact ⟨rfl, rfl⟩

set_option maxHeartbeats 4000000 in
theorem WBlob_full {w : World} {p : Nat} {v : Value} {xs : List Int} (h : WrV w p v xs) (hx : xs.length ≤ 65536) {a : Value} {L : List (List Int)} (hL : RdL w a L []) (hn : L.length * 24 ≤ 140737488355328) (hb : ∀ i, (L.getD i []).length ≤ 140737488355328) (hl : 65536 < xs.length + (blobs L).length) :
    Calls Try.prog 21 #[.pointer (some ⟨p, 0, none⟩), a] w fun e w' => e = .returned (.int .i64 6) ∧ w' = w := by
  obtain ⟨c0, c1, -⟩ := h.cells
  obtain ⟨qv, kv, rfl⟩ := h.rd.len
  obtain ⟨q, c, rfl⟩ : ∃ q c, a = .slice q L.length c := by obtain ⟨q, c, e, _⟩ := hL; exact ⟨q, c, e⟩
  have HL := Lib.hid hL
  have HB := Lib.hid hb
  clear h hL hb
  go_enter Try.func21, Try.ntmps21
  go_wp2_with fail
  go_loopw [5, 7, 29] (fun lv _ iv wr => ∃ i : Nat, iv = .int .i64 i ∧ i ≤ L.length ∧ lv = .int .i64 (65536 - (xs.length : Int) - ((blobs (L.take i)).length : Int)) ∧ xs.length + (blobs (L.take i)).length ≤ 65536 ∧ wr = w) (fun _ _ iv _ => L.length - (intOf iv).toNat)
  case atStart => exact ⟨0, rfl, by omega, by simp [blobs], by simpa [blobs] using hx, rfl⟩
  case round =>
    obtain ⟨i, rfl, hil, rfl, hle, rfl⟩ := hrel
    by_cases hlt : i < L.length
    · obtain ⟨b, off, r, m, k, -, rfl, -, hc, rfl, -, -⟩ := HL.out.at hlt
      have HE := Lib.hid (blobs_len hlt)
      have hbi := HB.out i
      generalize hbb : (L.getD i []).length = lb at hc HE hbi ⊢
      by_cases hfit : xs.length + (blobs (L.take i)).length + 8 + lb ≤ 65536
      · have g1 : ((blobs (L.take i)).length : Int) + 8 + (lb : Int) + (xs.length : Int) ≤ 65536 := by omega
        go_wp2_with fail
        go_roundw
        case rel => exact ⟨i + 1, by go_num, by omega, by rw [HE.out]; congr 1; omega, by rw [HE.out]; omega, trivial⟩
        case measure => simp [intOf]; omega
      · have g1 : 65536 - (xs.length : Int) - ((blobs (L.take i)).length : Int) - 8 < (lb : Int) := by omega
        clear hfit
        go_wp2_with fail
        go_ret
        exact ⟨rfl, rfl⟩
    · obtain rfl : i = L.length := by omega
      rw [List.take_length] at hle
      omega
end Go.Proofs.Ytigpiejjblfenaa
