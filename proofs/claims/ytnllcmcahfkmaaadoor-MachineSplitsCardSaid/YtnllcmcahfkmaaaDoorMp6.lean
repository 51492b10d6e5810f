/-
  The walks of basculeref02: eight, pad.; The walks of basculeref02: Frame.; SHA-256, plain: what the document's spelling and the program's have in common.; The walk of basculeref02.turn.; The walk of basculeref02.block.; The walks of basculeref02: Table, sum, Sum.; The walk of basculeref02.Sum.; Tagged, in the program and in the reference.; Pair, in the program and in the reference.; The nodes of a sparse tree: what stands at a leaf, and above two nodes, plain and in the program and in the document.; Package smt: a node of a tree, and a map's own cells, in memory.
-/
import Derived.Laws.BitsAllLaws
import Derived.MapKept
import Derived.Test.YtnllcmcahfkmaaaDoorMp1
import Derived.Test.YtnllcmcahfkmaaaDoorMp2
import Derived.Test.YtnllcmcahfkmaaaDoorMp5
namespace Go.Proofs.YtnllcmcahfkmaaaDoor
open Go.RowKit
set_option maxRecDepth 100000

/-- How long the padded string is. -/
theorem padlen (L : Nat) : L + 9 + (64 - (L + 9) % 64) % 64 = 64 * nbk L := by
  unfold nbk
  split <;> omega

end Go.Proofs.YtnllcmcahfkmaaaDoor
namespace Go.Proofs.YtnllcmcahfkmaaaDoor
open Go.RowKit
set_option maxRecDepth 100000

theorem oldW {w W : World} (hb : Below w.heap.size w W) {p : Addr} {v : Value} (hc : w.cell? p = some v) : W.cell? p = some v := by
  rw [hb.cell (World.block_lt_of_cell? w p hc)]; exact hc
/-- A row that the call itself lays, and appends to. -/
structure FrS (w wr : World) (v : Value) (xs : List Int) (n : Nat) : Prop where
  own : wr.ownsRow 0 5 1 v n (bc xs)
  fresh : ∀ g, v.ownBlock = some g → w.heap.size ≤ g
  below : Below w.heap.size w wr
theorem FrS.len {w wr : World} {v : Value} {xs : List Int} {n : Nat} (h : FrS w wr v xs n) : xs.length = n := by have := h.own.1; simpa using this
theorem FrS.on {w wr w1 : World} {v : Value} {xs : List Int} {n : Nat} (h : FrS w wr v xs n) (hb : Below wr.heap.size wr w1) : FrS w w1 v xs n :=
  ⟨own_on h.own hb, h.fresh, h.below.trans (hb.mono h.below.size)⟩
theorem FrS.drew {w wr : World} {v : Value} {xs : List Int} {n : Nat} (h : FrS w wr v xs n) : FrS w wr.drew v xs n := h.on (Below.refl _ _).drew
theorem FrS.grow {w wr w2 : World} {v v' : Value} {xs ys : List Int} {n m : Nat} (h : FrS w wr v xs n) (own : w2.ownsRow 0 5 1 v' (n + m) (bc xs ++ bc ys)) (grow : wr.grownBy w2 v.ownBlock) (fr : v'.ownBlock = v.ownBlock ∨ v'.ownBlock = some wr.heap.size) : FrS w w2 v' (xs ++ ys) (n + m) := by
  refine ⟨by rw [bc_append]; exact own, fun g hg => ?_, h.below.grown grow h.below.size (fun k hk => h.fresh k hk)⟩
  rcases fr with e | e
  · rw [e] at hg; exact h.fresh g hg
  · rw [e] at hg; have := h.below.size; simp at hg; omega
theorem FrS.rd {w wr : World} {v : Value} {xs : List Int} {n : Nat} (h : FrS w wr v xs n) : Rd wr v xs := by
  have := h.len; subst this
  exact rd_of_row h.own
theorem sn_cells (s : ByteArray) : byteCells s = bc (sn s) := by simp [byteCells, bc, sn]
theorem src_str {P : Program} {w : World} {tx : TypeId} (hk : P.underlying tx = some .string) (t : ByteArray) : Src P 1 tx (.string t) t.size (bc (sn t)) w := by
  rw [← sn_cells]; exact Src.ofString w hk t

end Go.Proofs.YtnllcmcahfkmaaaDoor
namespace Go.Proofs.YtnllcmcahfkmaaaDoor
open Go.RowKit
set_option maxRecDepth 100000

def U32 (x : Int) : Prop := 0 ≤ x ∧ x < 4294967296
theorem U32.mod (x : Int) : U32 (x % 4294967296) := by unfold U32; omega
theorem wrap_u32_u (x : Int) : U32 (IntKind.u32.wrap x) := by rw [IntKind.wrap_u32]; exact U32.mod x
theorem or_U32 (a b : Int) : U32 (bits .or .u32 a b) := wrap_u32_u _
theorem xor_U32 (a b : Int) : U32 (bits .xor .u32 a b) := wrap_u32_u _
theorem and_U32 (a b : Int) : U32 (bits .and .u32 a b) := wrap_u32_u _
theorem rk_U32 (k x : Int) : U32 (rk k x) := or_U32 _ _

/-- What is joined has no bit in common: the sum. -/
theorem or_add {a b : Nat} {s : Nat} (hb : b < 2 ^ s) (ha : a * 2 ^ s < 4294967296) (hb32 : b < 4294967296) : bits .or .u32 ((a * 2 ^ s : Nat) : Int) (b : Int) = ((a * 2 ^ s + b : Nat) : Int) := by
  rw [u32_or _ _ (by omega) (by omega) (by omega) (by omega)]
  congr 1
  rw [Int.toNat_natCast, Int.toNat_natCast, ← Nat.shiftLeft_eq, Nat.shiftLeft_add_eq_or_of_lt hb]
theorem wd_sum {x0 x1 x2 x3 : Int} (h0 : 0 ≤ x0 ∧ x0 < 256) (h1 : 0 ≤ x1 ∧ x1 < 256) (h2 : 0 ≤ x2 ∧ x2 < 256) (h3 : 0 ≤ x3 ∧ x3 < 256) :
    bits .or .u32 (bits .or .u32 (bits .or .u32 (x0 * 16777216) (x1 * 65536)) (x2 * 256)) x3 = x0 * 16777216 + x1 * 65536 + x2 * 256 + x3 := by
  obtain ⟨y0, rfl⟩ := Int.eq_ofNat_of_zero_le h0.1
  obtain ⟨y1, rfl⟩ := Int.eq_ofNat_of_zero_le h1.1
  obtain ⟨y2, rfl⟩ := Int.eq_ofNat_of_zero_le h2.1
  obtain ⟨y3, rfl⟩ := Int.eq_ofNat_of_zero_le h3.1
  have e1 := or_add (a := y0) (b := y1 * 65536) (s := 24) (by omega) (by omega) (by omega)
  have e2 := or_add (a := y0 * 256 + y1) (b := y2 * 256) (s := 16) (by omega) (by omega) (by omega)
  have e3 := or_add (a := y0 * 65536 + y1 * 256 + y2) (b := y3) (s := 8) (by omega) (by omega) (by omega)
  rw [show ((y0 : Int) * 16777216) = ((y0 * 2 ^ 24 : Nat) : Int) by omega, show ((y1 : Int) * 65536) = ((y1 * 65536 : Nat) : Int) by omega, e1,
    show ((y0 * 2 ^ 24 + y1 * 65536 : Nat) : Int) = (((y0 * 256 + y1) * 2 ^ 16 : Nat) : Int) by omega, show ((y2 : Int) * 256) = ((y2 * 256 : Nat) : Int) by omega, e2,
    show (((y0 * 256 + y1) * 2 ^ 16 + y2 * 256 : Nat) : Int) = (((y0 * 65536 + y1 * 256 + y2) * 2 ^ 8 : Nat) : Int) by omega, e3]
  omega
/-- Turned to the right, as the document does it. -/
def tn (n : Nat) (x : Int) : Int := (x / 2 ^ n + x * 2 ^ (32 - n) % 4294967296) % 4294967296
theorem tn_rk {k : Int} {s n : Nat} (hk : rsh k = s) (hs : s + n = 32) (hs1 : 1 ≤ s) {x : Int} (hx : U32 x) : tn n x = rk k x := by
  obtain ⟨y, rfl⟩ := Int.eq_ofNat_of_zero_le hx.1
  have hy : y < 4294967296 := by have := hx.2; omega
  have e32 : 4294967296 = 2 ^ n * 2 ^ s := by rw [← Nat.pow_add, Nat.add_comm, hs]
  have hdiv : y / 2 ^ n < 2 ^ s := by
    rw [Nat.div_lt_iff_lt_mul (Nat.two_pow_pos n), Nat.mul_comm, ← e32]; exact hy
  have hm : y * 2 ^ s % 4294967296 = y % 2 ^ n * 2 ^ s := by rw [e32, Nat.mul_mod_mul_right]
  have hml : y % 2 ^ n * 2 ^ s < 4294967296 := by
    rw [e32]; exact Nat.mul_lt_mul_of_pos_right (Nat.mod_lt _ (Nat.two_pow_pos n)) (Nat.two_pow_pos s)
  have hs32 : 2 ^ s ≤ 4294967296 := by
    have : (2 : Nat) ^ s ≤ 2 ^ 32 := Nat.pow_le_pow_right (by omega) (by omega)
    simpa using this
  have e1 : ((y : Int) * 2 ^ s % 4294967296) = ((y % 2 ^ n * 2 ^ s : Nat) : Int) := by rw [← hm, Int.natCast_emod, Int.natCast_mul, Int.natCast_pow]; rfl
  have e2 : ((y : Int) / 2 ^ n) = ((y / 2 ^ n : Nat) : Int) := by rw [Int.natCast_ediv, Int.natCast_pow]; rfl
  have hn : 32 - s = n := by omega
  have hn2 : 32 - n = s := by omega
  unfold tn rk
  rw [hk, hn, hn2, e1, e2, or_add hdiv hml (by omega)]
  have : (y / 2 ^ n : Nat) + y % 2 ^ n * 2 ^ s < 4294967296 := by
    have h1 : y % 2 ^ n * 2 ^ s + 2 ^ s ≤ 4294967296 := by
      rw [e32, ← Nat.succ_mul]
      exact Nat.mul_le_mul_right _ (Nat.mod_lt _ (Nat.two_pow_pos n))
    omega
  generalize y / 2 ^ n = A at this ⊢
  generalize y % 2 ^ n * 2 ^ s = C at this ⊢
  omega
theorem tn7 {x : Int} (hx : U32 x) : tn 7 x = rk (-7) x := tn_rk (by decide) (s := 25) rfl (by omega) hx
theorem tn18 {x : Int} (hx : U32 x) : tn 18 x = rk (-18) x := tn_rk (by decide) (s := 14) rfl (by omega) hx
theorem tn17 {x : Int} (hx : U32 x) : tn 17 x = rk (-17) x := tn_rk (by decide) (s := 15) rfl (by omega) hx
theorem tn19 {x : Int} (hx : U32 x) : tn 19 x = rk (-19) x := tn_rk (by decide) (s := 13) rfl (by omega) hx
theorem tn6 {x : Int} (hx : U32 x) : tn 6 x = rk (-6) x := tn_rk (by decide) (s := 26) rfl (by omega) hx
theorem tn11 {x : Int} (hx : U32 x) : tn 11 x = rk (-11) x := tn_rk (by decide) (s := 21) rfl (by omega) hx
theorem tn25 {x : Int} (hx : U32 x) : tn 25 x = rk (-25) x := tn_rk (by decide) (s := 7) rfl (by omega) hx
theorem tn2 {x : Int} (hx : U32 x) : tn 2 x = rk (-2) x := tn_rk (by decide) (s := 30) rfl (by omega) hx
theorem tn13 {x : Int} (hx : U32 x) : tn 13 x = rk (-13) x := tn_rk (by decide) (s := 19) rfl (by omega) hx
theorem tn22 {x : Int} (hx : U32 x) : tn 22 x = rk (-22) x := tn_rk (by decide) (s := 10) rfl (by omega) hx
theorem notI_sub {x : Int} (hx : U32 x) : notI x = (4294967295 - x) % 4294967296 := by
  obtain ⟨y, rfl⟩ := Int.eq_ofNat_of_zero_le hx.1
  have hy : y < 4294967296 := by have := hx.2; omega
  show IntKind.u32.wrap ((BitVec.ofInt 32 4294967295 ^^^ BitVec.ofInt 32 (y : Int)).toNat : Int) = _
  rw [show BitVec.ofInt 32 4294967295 = BitVec.allOnes 32 by decide, BitVec.allOnes_xor, BitVec.toNat_not, BitVec.ofInt_natCast, BitVec.toNat_ofNat, IntKind.wrap_u32, Nat.mod_eq_of_lt (by omega : y < 2 ^ 32)]
  omega

structure St8.ok (s : St8) : Prop where
  a : U32 s.a
  b : U32 s.b
  c : U32 s.c
  d : U32 s.d
  e : U32 s.e
  f : U32 s.f
  g : U32 s.g
  h : U32 s.h
theorem St8.ok.rnd {s : St8} (h : s.ok) (k w : Int) : (s.rnd k w).ok := ⟨U32.mod _, h.a, h.b, h.c, U32.mod _, h.e, h.f, h.g⟩
theorem St8.ok.rounds {s : St8} (h : s.ok) (B : Nat → Int) : ∀ i, (s.rounds B i).ok
  | 0 => h
  | i + 1 => (St8.ok.rounds h B i).rnd _ _
theorem St8.mix_ok (s : St8) (B : Nat → Int) : (s.mix B).ok := ⟨U32.mod _, U32.mod _, U32.mod _, U32.mod _, U32.mod _, U32.mod _, U32.mod _, U32.mod _⟩
theorem iv_ok : iv.ok := ⟨⟨by decide, by decide⟩, ⟨by decide, by decide⟩, ⟨by decide, by decide⟩, ⟨by decide, by decide⟩, ⟨by decide, by decide⟩, ⟨by decide, by decide⟩, ⟨by decide, by decide⟩, ⟨by decide, by decide⟩⟩
theorem shaSt_ok (xs : List Int) : ∀ i, (shaSt xs i).ok
  | 0 => iv_ok
  | _ + 1 => St8.mix_ok _ _
theorem W_U32 (B : Nat → Int) (n : Nat) : U32 (W B n) := by
  by_cases h : n < 16
  · rw [W_low B h]; exact or_U32 _ _
  · rw [W_high B (by omega)]; exact U32.mod _
end Go.Proofs.YtnllcmcahfkmaaaDoor
namespace Go.Proofs.YtnllcmcahfkmaaaDoor
open Go.RowKit
set_option maxRecDepth 100000

def tnI (k : Int) (x : Int) : Int := tn k.toNat x
theorem tnI7 {x : Int} (hx : U32 x) : tnI 7 x = rk (-7) x := tn7 hx
theorem tnI18 {x : Int} (hx : U32 x) : tnI 18 x = rk (-18) x := tn18 hx
theorem tnI17 {x : Int} (hx : U32 x) : tnI 17 x = rk (-17) x := tn17 hx
theorem tnI19 {x : Int} (hx : U32 x) : tnI 19 x = rk (-19) x := tn19 hx
theorem tnI6 {x : Int} (hx : U32 x) : tnI 6 x = rk (-6) x := tn6 hx
theorem tnI11 {x : Int} (hx : U32 x) : tnI 11 x = rk (-11) x := tn11 hx
theorem tnI25 {x : Int} (hx : U32 x) : tnI 25 x = rk (-25) x := tn25 hx
theorem tnI2 {x : Int} (hx : U32 x) : tnI 2 x = rk (-2) x := tn2 hx
theorem tnI13 {x : Int} (hx : U32 x) : tnI 13 x = rk (-13) x := tn13 hx
theorem tnI22 {x : Int} (hx : U32 x) : tnI 22 x = rk (-22) x := tn22 hx
end Go.Proofs.YtnllcmcahfkmaaaDoor
namespace Go.Proofs.YtnllcmcahfkmaaaDoor
open Go.RowKit
set_option maxRecDepth 100000

end Go.Proofs.YtnllcmcahfkmaaaDoor
namespace Go.Proofs.YtnllcmcahfkmaaaDoor
open Go.RowKit
set_option maxRecDepth 100000

/-- Cells of words. -/
def uc (F : List Int) : List Value := F.map (Value.int .u32)
@[go_sem] theorem uc_len (F : List Int) : (uc F).length = F.length := by simp [uc]
@[go_sem] theorem rootsZ_len : rootsZ.length = 64 := by rfl
def zero64 : List Int := List.replicate 64 0
@[go_sem] theorem zero64_len : zero64.length = 64 := by rfl
@[go_sem ↓] theorem load64 (a : Addr) : loadCellsFrom a 0 64 #[] = rowLoad a 64 := rfl
@[go_sem ↓] theorem Tryd.build_tab (ps : Array (Nat × Value)) : Instr.build 119 ps = rowBuild 119 ps := rfl
set_option maxHeartbeats 4000000 in
@[go_sem] theorem Tryd.run_tab (w : World) : (rowBuild 119 #[(0, .int .u32 1116352408), (1, .int .u32 1899447441), (2, .int .u32 3049323471), (3, .int .u32 3921009573), (4, .int .u32 961987163), (5, .int .u32 1508970993), (6, .int .u32 2453635748), (7, .int .u32 2870763221), (8, .int .u32 3624381080), (9, .int .u32 310598401), (10, .int .u32 607225278), (11, .int .u32 1426881987), (12, .int .u32 1925078388), (13, .int .u32 2162078206), (14, .int .u32 2614888103), (15, .int .u32 3248222580), (16, .int .u32 3835390401), (17, .int .u32 4022224774), (18, .int .u32 264347078), (19, .int .u32 604807628), (20, .int .u32 770255983), (21, .int .u32 1249150122), (22, .int .u32 1555081692), (23, .int .u32 1996064986), (24, .int .u32 2554220882), (25, .int .u32 2821834349), (26, .int .u32 2952996808), (27, .int .u32 3210313671), (28, .int .u32 3336571891), (29, .int .u32 3584528711), (30, .int .u32 113926993), (31, .int .u32 338241895), (32, .int .u32 666307205), (33, .int .u32 773529912), (34, .int .u32 1294757372), (35, .int .u32 1396182291), (36, .int .u32 1695183700), (37, .int .u32 1986661051), (38, .int .u32 2177026350), (39, .int .u32 2456956037), (40, .int .u32 2730485921), (41, .int .u32 2820302411), (42, .int .u32 3259730800), (43, .int .u32 3345764771), (44, .int .u32 3516065817), (45, .int .u32 3600352804), (46, .int .u32 4094571909), (47, .int .u32 275423344), (48, .int .u32 430227734), (49, .int .u32 506948616), (50, .int .u32 659060556), (51, .int .u32 883997877), (52, .int .u32 958139571), (53, .int .u32 1322822218), (54, .int .u32 1537002063), (55, .int .u32 1747873779), (56, .int .u32 1955562222), (57, .int .u32 2024104815), (58, .int .u32 2227730452), (59, .int .u32 2361852424), (60, .int .u32 2428436474), (61, .int .u32 2756734187), (62, .int .u32 3204031479), (63, .int .u32 3329325298)]).run Tryd.prog w = .ok (.agg (uc rootsZ).toArray) w := by
  unfold rowBuild; kernel_rfl
@[go_sem ↓] theorem Tryd.zero_tab (w : World) : (zeroValue 119).run Tryd.prog w = .ok (.agg (uc zero64).toArray) w := by kernel_rfl
theorem uc_one (F : List Int) : (uc F).toArray.all (·.oneCell') = true := by
  rw [Array.all_eq_true_iff_forall_mem]
  intro v hv
  simp [uc] at hv
  obtain ⟨x, _, rfl⟩ := hv
  rfl
@[go_sem] theorem run_storeCells_u32 {P : Program} (w : World) (b o : Nat) (F : List Int) (ht : w.there b o F.length) : (storeCells ⟨b, o, none⟩ (uc F) 0).run P w = .ok () (w.setCells b o (uc F)) := by
  have := run_storeCells_cells (P := P) b o (uc F) 0 w (fun j hj => by rw [uc_len] at hj; simpa using (ht j hj).1) (fun j hj => by rw [uc_len] at hj; simpa using (ht j hj).2) (fun v hv => (Array.all_eq_true_iff_forall_mem.1 (uc_one F)) v (by simpa using hv))
  simpa using this
/-- Block b holds the words F. -/
def TabAt (w : World) (b : Nat) (F : List Int) : Prop := w.heap[b]? = some (.cells (uc F).toArray 119 (0, 0))
theorem TabAt.there {w : World} {b : Nat} {G : List Int} (h : TabAt w b G) (hG : G.length = 64) : w.there b 0 64 := fun j hj => by
  refine ⟨?_, Joins.unfrozen_of_block h _⟩
  rw [cell_of_row _ _ _ _ _ _ h]
  simp [uc_len, hG, hj]
theorem TabAt.put {w : World} {b : Nat} {G : List Int} (h : TabAt w b G) (hG : G.length = 64) {F : List Int} (hF : F.length = 64) : TabAt (w.setCells b 0 (uc F)) b F := by
  have := setCells_block (b := b) (t := 119) (fr := (0, 0)) (uc F) (o := 0) (w := w) (pre := []) (mid := uc G) (post := []) (by simp only [List.nil_append, List.append_nil]; exact h) rfl (by rw [uc_len, uc_len, hF, hG])
  simpa only [TabAt, List.nil_append, List.append_nil] using this
theorem TabAt.row {w : World} {b : Nat} {F : List Int} (h : TabAt w b F) (hF : F.length = 64) : rowOf w b 0 64 = uc F := by
  rw [rowOf_block h]
  have : (uc F).length = 64 := by rw [uc_len, hF]
  simp [List.take_of_length_le (Nat.le_of_eq this)]
theorem TabAt.new (w : World) (F : List Int) : TabAt (w.alloc (.cells (uc F).toArray 119)) w.heap.size F := heap_alloc_last w _
theorem TabAt.on {w w1 : World} {b : Nat} {F : List Int} (h : TabAt w b F) (hb : Below w.heap.size w w1) : TabAt w1 b F := by
  have : b < w.heap.size := (Array.getElem?_eq_some_iff.1 h).1
  unfold TabAt
  rw [hb.block _ this]; exact h


/-- What stands in memory within the document's sum. -/
structure RsSt (w wr : World) (S : St8) (g N : Nat) (xs : List Int) : Prop where
  below : Below w.heap.size w wr
  rs : RwK .u32 wr w.heap.size 8 107 (fun i => S.lst.getD i 0)
  rk : RwK .u32 wr (w.heap.size + 1) 64 119 rt
  rr : HashAt wr (w.heap.size + 1 + 1) zero32
  rp : RwK .u8 wr g N 5 (padF xs)
  hg : w.heap.size + 1 + 1 < g
theorem RsSt.on {w wr w1 : World} {S : St8} {g N : Nat} {xs : List Int} (h : RsSt w wr S g N xs) (hb : Below wr.heap.size wr w1) : RsSt w w1 S g N xs :=
  ⟨h.below.trans (hb.mono h.below.size), h.rs.on hb, h.rk.on hb, h.rr.on hb, h.rp.on hb, h.hg⟩
theorem RsSt.drew {w wr : World} {S : St8} {g N : Nat} {xs : List Int} (h : RsSt w wr S g N xs) : RsSt w wr.drew S g N xs := ⟨h.below.drew, h.rs, h.rk, h.rr, h.rp, h.hg⟩
theorem RsSt.put {w wr : World} {S : St8} {g N : Nat} {xs : List Int} (h : RsSt w wr S g N xs) (T : St8) :
    RsSt w ((((((((wr.setCell ⟨w.heap.size, 0, none⟩ (.int .u32 T.a)).setCell ⟨w.heap.size, 1, none⟩ (.int .u32 T.b)).setCell ⟨w.heap.size, 2, none⟩ (.int .u32 T.c)).setCell ⟨w.heap.size, 3, none⟩ (.int .u32 T.d)).setCell ⟨w.heap.size, 4, none⟩ (.int .u32 T.e)).setCell ⟨w.heap.size, 5, none⟩ (.int .u32 T.f)).setCell ⟨w.heap.size, 6, none⟩ (.int .u32 T.g)).setCell ⟨w.heap.size, 7, none⟩ (.int .u32 T.h)) T g N xs := by
  have hb := h.below
  have hr := h.rr
  have ht := h.rk
  have hp := h.rp
  have hg := h.hg
  refine ⟨?_, ?_, ?_, ?_, ?_, hg⟩
  · repeat (first | with_reducible exact hb | with_reducible refine Below.setCell ?_ (by simp) _)
  · refine ((((((((h.rs.store (j := 0) (by omega) T.a).store (j := 1) (by omega) T.b).store (j := 2) (by omega) T.c).store (j := 3) (by omega) T.d).store (j := 4) (by omega) T.e).store (j := 5) (by omega) T.f).store (j := 6) (by omega) T.g).store (j := 7) (by omega) T.h).same ?_
    intro i hi
    have e : i = 0 ∨ i = 1 ∨ i = 2 ∨ i = 3 ∨ i = 4 ∨ i = 5 ∨ i = 6 ∨ i = 7 := by omega
    rcases e with rfl | rfl | rfl | rfl | rfl | rfl | rfl | rfl <;> simp [updK, St8.lst]
  · repeat (first | with_reducible exact ht | with_reducible refine RwK.other ?_ (by simp) _)
  · repeat (first | with_reducible exact hr | with_reducible refine HashAt.other ?_ (by simp; omega) _)
  · repeat (first | with_reducible exact hp | with_reducible refine RwK.other ?_ (by simp; omega) _)
theorem RwK.hashL {w : World} {b : Nat} {F : List Int} (hF : F.length = 32) (h : RwK .u8 w b 32 43 (fun i => F.getD i 0)) : HashAt w b F := by
  have := h.block
  rw [show ((List.range 32).map fun i => Value.int .u8 (F.getD i 0)) = hc F from (list_ext_K (k := .u8) (by simp [hc, hF]) (fun i hi => by simp [hc, List.getD, hF, hi])).symm] at this
  exact this
theorem out_get (S : St8) {i : Nat} (h : i < 32) : S.out.getD i 0 = (be4 (S.lst.getD (i / 4) 0)).getD (i % 4) 0 := by
  have e : i = 0 ∨ i = 1 ∨ i = 2 ∨ i = 3 ∨ i = 4 ∨ i = 5 ∨ i = 6 ∨ i = 7 ∨ i = 8 ∨ i = 9 ∨ i = 10 ∨ i = 11 ∨ i = 12 ∨ i = 13 ∨ i = 14 ∨ i = 15 ∨ i = 16 ∨ i = 17 ∨ i = 18 ∨ i = 19 ∨ i = 20 ∨ i = 21 ∨ i = 22 ∨ i = 23 ∨ i = 24 ∨ i = 25 ∨ i = 26 ∨ i = 27 ∨ i = 28 ∨ i = 29 ∨ i = 30 ∨ i = 31 := by omega
  rcases e with rfl | rfl | rfl | rfl | rfl | rfl | rfl | rfl | rfl | rfl | rfl | rfl | rfl | rfl | rfl | rfl | rfl | rfl | rfl | rfl | rfl | rfl | rfl | rfl | rfl | rfl | rfl | rfl | rfl | rfl | rfl | rfl <;> rfl


end Go.Proofs.YtnllcmcahfkmaaaDoor
namespace Go.Proofs.YtnllcmcahfkmaaaDoor
open Go.RowKit
set_option maxRecDepth 100000

end Go.Proofs.YtnllcmcahfkmaaaDoor
namespace Go.Proofs.YtnllcmcahfkmaaaDoor
open Go.RowKit
set_option maxRecDepth 100000

set_option maxHeartbeats 4000000 in
theorem Tagged_any {w : World} {s t : ByteArray} {v : Value} {L : List (List Int)} (hL : RdL w v L []) (hT : Tbl w) (hs : s.size ≤ maxLen) (hst : cut255 s = t) (hn : (frm (sn t) L).length ≤ 140737488355328) (hx : Bytes (frm (sn t) L)) :
    Calls Tryd.prog 27 #[.string s, v] w fun e w' => e = .returned (.agg (hc (sha (frm (sn t) L))).toArray) ∧ Below w.heap.size w w' := by
  have H0 := Lib.hid (HashAt.new w zero32)
  have B0 := Lib.hid ((Below.refl w.heap.size w).alloc (Nat.le_refl _) (.cells (hc zero32).toArray 43))
  have KF := Lib.hid (Frame_cut (hL.chg (Chg.below B0.out (Nat.le_refl _) [])) hs hst hn)
  have HX := Lib.hid hx
  clear hL hx
  go_enter Tryd.func27, Tryd.ntmps27
  go_wp2_with fail
  refine KF.out.mono ?_
  rintro e w1 ⟨rfl, hr1, hb1⟩
  simp only [World.size_alloc] at hr1
  have H1 := Lib.hid (H0.out.on hb1)
  have B1 := Lib.hid (B0.out.trans (hb1.mono B0.out.size))
  have KS := Lib.hid (Sum_any (rdc_of_rw hr1) HX.out (hT.on B1.out hT.pos))
  clear hr1
  clear KF H0 hn hs hst HX hT
  generalize hX : frm (sn t) L = X at *
  have HXX := Lib.hid hX
  clear hX
  go_wp2_with fail
  refine KS.out.mono ?_
  rintro e w3 ⟨rfl, hb3⟩
  have H3 := H1.out.on hb3
  have B3 := B1.out.trans (hb3.mono B1.out.size)
  have hth3 := H3.there zero32_len
  have hlen := sha_len X
  have hput := (H3.put zero32_len hlen).row hlen
  have HB := Lib.hid (below_setCells' (B := w.heap.size) w.heap.size (Nat.le_refl _) (hc (sha X)) 0 B3)
  generalize hF : sha X = F at *
  have HF := Lib.hid hF
  clear hF
  clear hb3 H3 B3 KS H1 B1 hb1
  go_wp2_with fail
  refine bodyPost_ret (v := .agg (hc F).toArray) (by simp [results, Tryd.results27, go_sem, hput, hlen]) rfl ⟨by rw [HXX.out, HF.out], HB.out⟩

end Go.Proofs.YtnllcmcahfkmaaaDoor
namespace Go.Proofs.YtnllcmcahfkmaaaDoor
open Go.RowKit
set_option maxRecDepth 100000

def pairS : ByteArray := ⟨#[112, 97, 105, 114]⟩
theorem pair_sn : sn pairS = [112, 97, 105, 114] := by rfl
theorem HashAt.rd {w : World} {b : Nat} {A : List Int} (h : HashAt w b A) (hA : A.length = 32) : Rd w (.slice (some ⟨b, 0, none⟩) 32 32) A :=
  ⟨_, 32, by rw [hA], .inr ⟨b, 0, rfl, fun i hi => by rw [Nat.zero_add]; exact h.cell hi⟩⟩
theorem two_rdl {W : World} {v v' : Value} {A B : List Int} (h : Rd W v A) (h' : Rd W v' B) : RdL (W.alloc (.cells #[v, v'] 67)) (.slice (some ⟨W.heap.size, 0, none⟩) 2 2) [A, B] [] := by
  refine ⟨_, 2, rfl, .inr ⟨W.heap.size, 0, rfl, by simp, fun i hi => ?_⟩⟩
  have hb := heap_alloc_new W (.cells #[v, v'] 67)
  rw [Nat.zero_add, Joins.cell_of_block hb]
  have e : i = 0 ∨ i = 1 := by simp at hi; omega
  rcases e with rfl | rfl
  · exact ⟨v, rfl, h.alloc _, by simp⟩
  · exact ⟨v', rfl, h'.alloc _, by simp⟩
theorem pair_len {A B : List Int} (hA : A.length = 32) (hB : B.length = 32) : (frm (sn pairS) [A, B]).length = 85 := by
  rw [frm_len, pair_sn]; simp [blobs, hA, hB]
theorem pair_bytes {A B : List Int} (bA : Bytes A) (bB : Bytes B) : Bytes (frm (sn pairS) [A, B]) :=
  frm_bytes (sn_bytes _) (by rw [pair_sn]; decide) (fun b hb => by simp only [List.mem_cons, List.not_mem_nil, or_false] at hb; rcases hb with rfl | rfl <;> assumption)

/-! ### Two rows of the call's own -/
theorem FrS.born {W0 W : World} (hb : Below W0.heap.size W0 W) {k : Nat} (hk : W.heap.size = k) : FrS W0 (W.alloc (.cells #[] 5)) (.slice (some ⟨k, 0, none⟩) 0 0) [] 0 := by
  subst hk
  exact ⟨own_empty W _ 1, (fun g hg => by have := hb.size; simp [Value.ownBlock] at hg; omega), hb.alloc hb.size _⟩
structure Two (W0 W : World) (v v' : Value) (xs ys : List Int) (n m : Nat) : Prop where
  a : FrS W0 W v xs n
  b : FrS W0 W v' ys m
  ne : ∀ g, v.ownBlock = some g → v'.ownBlock ≠ some g
theorem Two.symm {W0 W : World} {v v' : Value} {xs ys : List Int} {n m : Nat} (h : Two W0 W v v' xs ys n m) : Two W0 W v' v ys xs m n := ⟨h.b, h.a, fun g e e' => h.ne g e' e⟩
theorem Two.ofA {W0 W : World} {v : Value} {xs : List Int} {n : Nat} (h : FrS W0 W v xs n) {k : Nat} (hk : W.heap.size = k) : Two W0 (W.alloc (.cells #[] 5)) v (.slice (some ⟨k, 0, none⟩) 0 0) xs [] n 0 := by
  subst hk
  exact ⟨h.on ((Below.refl _ _).alloc (Nat.le_refl _) _), FrS.born h.below rfl, fun g e e' => by have := own_lt h.own e; simp [Value.ownBlock] at e'; omega⟩
theorem Two.growA {W0 W w2 : World} {v v' v2 : Value} {xs ys zs : List Int} {n m k : Nat} (h : Two W0 W v v' xs ys n m) (own : w2.ownsRow 0 5 1 v2 (n + k) (bc xs ++ bc zs)) (grow : W.grownBy w2 v.ownBlock) (fr : v2.ownBlock = v.ownBlock ∨ v2.ownBlock = some W.heap.size) : Two W0 w2 v2 v' (xs ++ zs) ys (n + k) m := by
  have ha := h.a.grow own grow fr
  refine ⟨ha, ⟨own_chg2 h.b.own (Chg.grown grow (S := v.ownBlock.toList) (fun g hg => Option.mem_toList.2 hg)) (fun g hg hm => h.ne g (Option.mem_toList.1 hm) hg), h.b.fresh, ha.below⟩, fun g e e' => ?_⟩
  rcases fr with e1 | e1
  · rw [e1] at e; exact h.ne g e e'
  · rw [e1] at e; have := own_lt h.b.own e'; simp at e; omega

set_option maxHeartbeats 4000000 in
theorem Pair_any {w : World} {A B : List Int} (hT : Tbl w) (hA : A.length = 32) (hB : B.length = 32) (bA : Bytes A) (bB : Bytes B) :
    Calls Tryd.prog 58 #[.agg (hc A).toArray, .agg (hc B).toArray] w fun e w' => e = .returned (.agg (hc (sha (frm (sn pairS) [A, B]))).toArray) ∧ Below w.heap.size w w' := by
  have LL := Lib.hid (pair_len hA hB)
  have BX := Lib.hid (pair_bytes bA bB)
  have HA := Lib.hid ((HashAt.new w A).alloc (.cells (hc B).toArray 43) |>.alloc (.cells (hc zero32).toArray 43))
  have HB := Lib.hid ((HashAt.new (w.alloc (.cells (hc A).toArray 43)) B).alloc (.cells (hc zero32).toArray 43))
  have HZ := Lib.hid (HashAt.new ((w.alloc (.cells (hc A).toArray 43)).alloc (.cells (hc B).toArray 43)) zero32)
  have B0 := Lib.hid ((((Below.refl w.heap.size w).alloc (Nat.le_refl _) (.cells (hc A).toArray 43)).alloc (by simp) (.cells (hc B).toArray 43)).alloc (by simp; omega) (.cells (hc zero32).toArray 43))
  have hlA : (hc A).length = 32 := by rw [hc_len, hA]
  have hlB : (hc B).length = 32 := by rw [hc_len, hB]
  obtain ⟨i0, hi, hz0, hz1, hz2⟩ := info_parts Tryd.infoU8
  replace hi := Lib.hid hi
  replace hz0 := Lib.hid hz0
  replace hz1 := Lib.hid hz1
  replace hz2 := Lib.hid hz2
  replace hA := Lib.hid hA
  replace hB := Lib.hid hB
  clear bA bB
  go_enter Tryd.func58, Tryd.ntmps58
  go_wp2_with fail
  simp only [World.size_alloc] at HB HZ
  generalize ((w.alloc (.cells (hc A).toArray 43)).alloc (.cells (hc B).toArray 43)).alloc (.cells (hc zero32).toArray 43) = W0 at *
  refine wp_region_held_drew (S := fun W => Below w.heap.size w W) (by kernel_rfl) (B0.out.drew) (fun h0 => ?_)
  refine wpAnyH_take (i := 0) (v := ?_) (by rw [List.getElem?_toArray]; rfl) (by kernel_rfl) (by kernel_rfl) (by kernel_rfl) (by exact fun _ _ _ h => h) (Or.inl ⟨by rfl, ?_⟩) h0 ?_
  rotate_left
  · intro W hW
    go_simp
    all_goals with_reducible rfl
  try simp only [Act.put, List.setIfInBounds_toArray, List.set_cons_zero, List.set_cons_succ]
  refine wpAnyH_take (i := 1) (v := ?_) (by rw [List.getElem?_toArray]; rfl) (by kernel_rfl) (by kernel_rfl) (by kernel_rfl) (by exact fun _ _ _ h => h) (Or.inl ⟨by rfl, ?_⟩) h0 ?_
  rotate_left
  · intro W hW
    go_simp
    all_goals with_reducible rfl
  try simp only [Act.put, List.setIfInBounds_toArray, List.set_cons_zero, List.set_cons_succ]
  refine wpAnyH_ready (rs := [2]) (by kernel_rfl) (by simp) ?_
  refine AllReadyH.cons (by rw [List.getElem?_toArray]; rfl) (fun K hK => ?_) AllReadyH.nil
  rw [if_pos (by rfl)]
  have G0 : Below W0.heap.size W0 W0.drew := (Below.refl _ _).drew
  go_wp2_with fail
  refine hK.out _ _ (h0.alloc h0.size _) (fun h2 => ?_)
  clear hK K
  try simp only [Act.put, List.setIfInBounds_toArray, List.set_cons_zero, List.set_cons_succ]
  have RL := two_rdl ((HA.out.on G0).rd hA.out) ((HB.out.on G0).rd hB.out)
  have RL2 := Lib.hid RL
  have G2 := G0.alloc G0.size (.cells #[.slice (some ⟨w.heap.size, 0, none⟩) 32 32, .slice (some ⟨w.heap.size + 1, 0, none⟩) 32 32] 67)
  clear RL
  refine wpAnyH_ready (rs := [3]) (by kernel_rfl) (by simp) ?_
  refine AllReadyH.cons (by rw [List.getElem?_toArray]; rfl) (fun K hK => ?_) AllReadyH.nil
  rw [if_pos (by rfl)]
  go_wp2_with fail
  refine (Tagged_any (s := pairS) RL2.out (hT.on h2 hT.pos) (by decide) (cut_small (by decide)) (by rw [LL.out]; omega) BX.out).mono ?_
  rintro e w8 ⟨rfl, hb8⟩
  have hB8 : Below W0.heap.size W0 w8 := G2.trans (hb8.mono G2.size)
  go_wp2_with fail
  refine hK.out _ _ (h2.trans (hb8.mono h2.size)) (fun h3 => ?_)
  clear hK K
  try simp only [Act.put, List.setIfInBounds_toArray, List.set_cons_zero, List.set_cons_succ]
  refine wpAnyH_ready (rs := [4]) (by kernel_rfl) (by simp) ?_
  refine AllReadyH.cons (by rw [List.getElem?_toArray]; rfl) (fun K hK => ?_) AllReadyH.nil
  rw [if_pos (by rfl)]
  have H3 := HZ.out.on hB8
  have B3 := B0.out.trans (hB8.mono B0.out.size)
  have hth3 := H3.there zero32_len
  have hlen := sha_len (frm (sn pairS) [A, B])
  have hput := (H3.put zero32_len hlen).row hlen
  have HX := Lib.hid (below_setCells' (B := w.heap.size) (w.heap.size + 1 + 1) (by omega) (hc (sha (frm (sn pairS) [A, B]))) 0 B3)
  generalize hF : sha (frm (sn pairS) [A, B]) = F at *
  have HF := Lib.hid hF
  clear hF hb8 H3 B3
  go_wp2_with fail
  refine hK.out _ _ (HX.out) (fun _ => ?_)
  clear hK K
  try simp only [Act.put, List.setIfInBounds_toArray, List.set_cons_zero, List.set_cons_succ]
  refine wpAnyH_done (by kernel_rfl) ?_ _
  go_wp2_with fail
  refine bodyPost_ret (v := .agg (hc F).toArray) (by simp [results, Tryd.results58, go_sem, hput, hlen]) rfl ⟨by rw [HF.out], HX.out⟩

end Go.Proofs.YtnllcmcahfkmaaaDoor
namespace Go.Proofs.YtnllcmcahfkmaaaDoor
open Go.RowKit
set_option maxRecDepth 100000

def leafS : ByteArray := ⟨#[108, 101, 97, 102]⟩
theorem leaf_sn : sn leafS = [108, 101, 97, 102] := by rfl
theorem leaf_len {A B : List Int} (hA : A.length = 32) (hB : B.length = 32) : (frm (sn leafS) [A, B]).length = 85 := by
  rw [frm_len, leaf_sn]; simp [blobs, hA, hB]
theorem leaf_bytes {A B : List Int} (bA : Bytes A) (bB : Bytes B) : Bytes (frm (sn leafS) [A, B]) :=
  frm_bytes (sn_bytes _) (by rw [leaf_sn]; decide) (fun b hb => by simp only [List.mem_cons, List.not_mem_nil, or_false] at hb; rcases hb with rfl | rfl <;> assumption)
theorem zero32_bytes : Bytes zero32 := by
  intro x hx
  simp only [zero32, List.mem_cons, List.not_mem_nil, or_false, or_self] at hx
  omega
/-- A leaf. -/
def lfH (K V : List Int) : List Int := if V = zero32 then zero32 else sha (frm (sn leafS) [K, V])
/-- What stands above two nodes. -/
def abH (A B : List Int) : List Int := if A = zero32 ∧ B = zero32 then zero32 else sha (frm (sn pairS) [A, B])
theorem lfH_len (K V : List Int) : (lfH K V).length = 32 := by unfold lfH; split; exact zero32_len; exact sha_len _
theorem lfH_bytes (K V : List Int) : Bytes (lfH K V) := by unfold lfH; split; exact zero32_bytes; exact sha_bytes _
theorem abH_len (A B : List Int) : (abH A B).length = 32 := by unfold abH; split; exact zero32_len; exact sha_len _
theorem abH_bytes (A B : List Int) : Bytes (abH A B) := by unfold abH; split; exact zero32_bytes; exact sha_bytes _
theorem lfH_zero (K : List Int) : lfH K zero32 = zero32 := if_pos rfl
theorem lfH_some (K : List Int) {V : List Int} (h : ¬ V = zero32) : lfH K V = sha (frm (sn leafS) [K, V]) := if_neg h
theorem abH_zero : abH zero32 zero32 = zero32 := if_pos ⟨rfl, rfl⟩
theorem abH_some {A B : List Int} (h : ¬ (A = zero32 ∧ B = zero32)) : abH A B = sha (frm (sn pairS) [A, B]) := if_neg h

set_option maxHeartbeats 4000000 in
theorem Leaf_any {w : World} {A B : List Int} (hT : Tbl w) (hA : A.length = 32) (hB : B.length = 32) (bA : Bytes A) (bB : Bytes B) :
    Calls Tryd.prog 57 #[.agg (hc A).toArray, .agg (hc B).toArray] w fun e w' => e = .returned (.agg (hc (lfH A B)).toArray) ∧ Below w.heap.size w w' := by
  have LL := Lib.hid (leaf_len hA hB)
  have BX := Lib.hid (leaf_bytes bA bB)
  have HA := Lib.hid ((HashAt.new w A).alloc (.cells (hc B).toArray 43) |>.alloc (.cells (hc zero32).toArray 43))
  have HB := Lib.hid ((HashAt.new (w.alloc (.cells (hc A).toArray 43)) B).alloc (.cells (hc zero32).toArray 43))
  have HZ := Lib.hid (HashAt.new ((w.alloc (.cells (hc A).toArray 43)).alloc (.cells (hc B).toArray 43)) zero32)
  have B0 := Lib.hid ((((Below.refl w.heap.size w).alloc (Nat.le_refl _) (.cells (hc A).toArray 43)).alloc (by simp) (.cells (hc B).toArray 43)).alloc (by simp; omega) (.cells (hc zero32).toArray 43))
  have hlA : (hc A).length = 32 := by rw [hc_len, hA]
  have hlB : (hc B).length = 32 := by rw [hc_len, hB]
  obtain ⟨i0, hi, hz0, hz1, hz2⟩ := info_parts Tryd.infoU8
  replace hi := Lib.hid hi
  replace hz0 := Lib.hid hz0
  replace hz1 := Lib.hid hz1
  replace hz2 := Lib.hid hz2
  replace hA := Lib.hid hA
  replace hB := Lib.hid hB
  clear bA bB
  simp only [World.size_alloc] at HB HZ
  have r1 := HB.out.row hB.out
  have lB : B.length = 32 := hB.out
  have z32 := zero32_len
  by_cases hz : B = zero32
  · have dz : (B == zero32) = true := by rw [hz]; exact beq_self_eq_true _
    have HE := Lib.hid (show lfH A B = zero32 by rw [hz]; exact lfH_zero A)
    have hth := HZ.out.there zero32_len
    have hput := (HZ.out.put zero32_len zero32_len).row zero32_len
    have HX := Lib.hid (below_setCells' (B := w.heap.size) (w.heap.size + 1 + 1) (by omega) (hc zero32) 0 B0.out)
    clear hz
    go_enter Tryd.func57, Tryd.ntmps57
    go_wp2_with fail
    refine bodyPost_ret (v := .agg (hc zero32).toArray) (by simp [results, Tryd.results57, go_sem, hput, z32]) rfl ⟨by rw [HE.out], HX.out⟩
  have dz : (B == zero32) = false := by simpa using hz
  have HE := Lib.hid (lfH_some A hz)
  clear hz
  go_enter Tryd.func57, Tryd.ntmps57
  go_wp2_with fail
  clear dz r1 lB z32
  generalize ((w.alloc (.cells (hc A).toArray 43)).alloc (.cells (hc B).toArray 43)).alloc (.cells (hc zero32).toArray 43) = W0 at *
  refine wp_region_held_drew (S := fun W => Below w.heap.size w W) (by kernel_rfl) (B0.out.drew) (fun h0 => ?_)
  refine wpAnyH_take (i := 0) (v := ?_) (by rw [List.getElem?_toArray]; rfl) (by kernel_rfl) (by kernel_rfl) (by kernel_rfl) (by exact fun _ _ _ h => h) (Or.inl ⟨by rfl, ?_⟩) h0 ?_
  rotate_left
  · intro W hW
    go_simp
    all_goals with_reducible rfl
  try simp only [Act.put, List.setIfInBounds_toArray, List.set_cons_zero, List.set_cons_succ]
  refine wpAnyH_take (i := 1) (v := ?_) (by rw [List.getElem?_toArray]; rfl) (by kernel_rfl) (by kernel_rfl) (by kernel_rfl) (by exact fun _ _ _ h => h) (Or.inl ⟨by rfl, ?_⟩) h0 ?_
  rotate_left
  · intro W hW
    go_simp
    all_goals with_reducible rfl
  try simp only [Act.put, List.setIfInBounds_toArray, List.set_cons_zero, List.set_cons_succ]
  refine wpAnyH_ready (rs := [2]) (by kernel_rfl) (by simp) ?_
  refine AllReadyH.cons (by rw [List.getElem?_toArray]; rfl) (fun K hK => ?_) AllReadyH.nil
  rw [if_pos (by rfl)]
  have G0 : Below W0.heap.size W0 W0.drew := (Below.refl _ _).drew
  go_wp2_with fail
  refine hK.out _ _ (h0.alloc h0.size _) (fun h2 => ?_)
  clear hK K
  try simp only [Act.put, List.setIfInBounds_toArray, List.set_cons_zero, List.set_cons_succ]
  have RL := two_rdl ((HA.out.on G0).rd hA.out) ((HB.out.on G0).rd hB.out)
  have RL2 := Lib.hid RL
  have G2 := G0.alloc G0.size (.cells #[.slice (some ⟨w.heap.size, 0, none⟩) 32 32, .slice (some ⟨w.heap.size + 1, 0, none⟩) 32 32] 67)
  clear RL
  refine wpAnyH_ready (rs := [3]) (by kernel_rfl) (by simp) ?_
  refine AllReadyH.cons (by rw [List.getElem?_toArray]; rfl) (fun K hK => ?_) AllReadyH.nil
  rw [if_pos (by rfl)]
  go_wp2_with fail
  refine (Tagged_any (s := leafS) RL2.out (hT.on h2 hT.pos) (by decide) (cut_small (by decide)) (by rw [LL.out]; omega) BX.out).mono ?_
  rintro e w8 ⟨rfl, hb8⟩
  have hB8 : Below W0.heap.size W0 w8 := G2.trans (hb8.mono G2.size)
  go_wp2_with fail
  refine hK.out _ _ (h2.trans (hb8.mono h2.size)) (fun h3 => ?_)
  clear hK K
  try simp only [Act.put, List.setIfInBounds_toArray, List.set_cons_zero, List.set_cons_succ]
  refine wpAnyH_ready (rs := [4]) (by kernel_rfl) (by simp) ?_
  refine AllReadyH.cons (by rw [List.getElem?_toArray]; rfl) (fun K hK => ?_) AllReadyH.nil
  rw [if_pos (by rfl)]
  have H3 := HZ.out.on hB8
  have B3 := B0.out.trans (hB8.mono B0.out.size)
  have hth3 := H3.there zero32_len
  have hlen := sha_len (frm (sn leafS) [A, B])
  have hput := (H3.put zero32_len hlen).row hlen
  have HX := Lib.hid (below_setCells' (B := w.heap.size) (w.heap.size + 1 + 1) (by omega) (hc (sha (frm (sn leafS) [A, B]))) 0 B3)
  generalize hF : sha (frm (sn leafS) [A, B]) = F at *
  have HF := Lib.hid hF
  clear hF hb8 H3 B3
  go_wp2_with fail
  refine hK.out _ _ (HX.out) (fun _ => ?_)
  clear hK K
  try simp only [Act.put, List.setIfInBounds_toArray, List.set_cons_zero, List.set_cons_succ]
  refine wpAnyH_done (by kernel_rfl) ?_ _
  go_wp2_with fail
  refine bodyPost_ret (v := .agg (hc F).toArray) (by simp [results, Tryd.results57, go_sem, hput, hlen]) rfl ⟨by rw [HE.out], HX.out⟩


set_option maxHeartbeats 4000000 in
theorem Above_any {w : World} {A B : List Int} (hT : Tbl w) (hA : A.length = 32) (hB : B.length = 32) (bA : Bytes A) (bB : Bytes B) :
    Calls Tryd.prog 54 #[.agg (hc A).toArray, .agg (hc B).toArray] w fun e w' => e = .returned (.agg (hc (abH A B)).toArray) ∧ Below w.heap.size w w' := by
  have HA := Lib.hid ((HashAt.new w A).alloc (.cells (hc B).toArray 43) |>.alloc (.cells (hc zero32).toArray 43))
  have HB := Lib.hid ((HashAt.new (w.alloc (.cells (hc A).toArray 43)) B).alloc (.cells (hc zero32).toArray 43))
  have HZ := Lib.hid (HashAt.new ((w.alloc (.cells (hc A).toArray 43)).alloc (.cells (hc B).toArray 43)) zero32)
  have B0 := Lib.hid ((((Below.refl w.heap.size w).alloc (Nat.le_refl _) (.cells (hc A).toArray 43)).alloc (by simp) (.cells (hc B).toArray 43)).alloc (by simp; omega) (.cells (hc zero32).toArray 43))
  have hlA : (hc A).length = 32 := by rw [hc_len, hA]
  have hlB : (hc B).length = 32 := by rw [hc_len, hB]
  simp only [World.size_alloc] at HB HZ
  have r0 := HA.out.row hA
  have r1 := HB.out.row hB
  have z32 := zero32_len
  have P := fun (W : World) (h : Below w.heap.size w W) => Pair_any (w := W) (hT.on h hT.pos) hA hB bA bB
  have HP := Lib.hid P
  clear P bA bB
  by_cases hz : A = zero32 ∧ B = zero32
  · have da : (A == zero32) = true := by rw [hz.1]; exact beq_self_eq_true _
    have db : (B == zero32) = true := by rw [hz.2]; exact beq_self_eq_true _
    have HE := Lib.hid (show abH A B = zero32 by rw [hz.1, hz.2]; exact abH_zero)
    have hth := HZ.out.there zero32_len
    have hput := (HZ.out.put zero32_len zero32_len).row zero32_len
    have HX := Lib.hid (below_setCells' (B := w.heap.size) (w.heap.size + 1 + 1) (by omega) (hc zero32) 0 B0.out)
    clear hz
    go_enter Tryd.func54, Tryd.ntmps54
    go_wp2_with fail
    refine bodyPost_ret (v := .agg (hc zero32).toArray) (by simp [results, Tryd.results54, go_sem, hput, z32]) rfl ⟨by rw [HE.out], HX.out⟩
  have HE := Lib.hid (abH_some hz)
  have hd : (A == zero32) = false ∨ ((A == zero32) = true ∧ (B == zero32) = false) := by
    by_cases ha : A = zero32
    · right
      exact ⟨by rw [ha]; exact beq_self_eq_true _, by simpa using fun hb => hz ⟨ha, hb⟩⟩
    · left; simpa using ha
  clear hz
  have hlen := sha_len (frm (sn pairS) [A, B])
  rcases hd with da | ⟨da, db⟩
  all_goals
    go_enter Tryd.func54, Tryd.ntmps54
    go_wp2_with fail
    refine (HP.out _ B0.out).mono ?_
    rintro e w3 ⟨rfl, hb3⟩
    have H3 := HZ.out.on hb3
    have B3 := B0.out.trans (hb3.mono B0.out.size)
    have hth3 := H3.there zero32_len
    have hput := (H3.put zero32_len hlen).row hlen
    have HX := Lib.hid (below_setCells' (B := w.heap.size) (w.heap.size + 1 + 1) (by omega) (hc (sha (frm (sn pairS) [A, B]))) 0 B3)
    generalize hF : sha (frm (sn pairS) [A, B]) = F at *
    have HF := Lib.hid hF
    clear hF hb3 H3 B3 r0 r1
    go_wp2_with fail
    refine bodyPost_ret (v := .agg (hc F).toArray) (by simp [results, Tryd.results54, go_sem, hput, hlen]) rfl ⟨by rw [HE.out], HX.out⟩

end Go.Proofs.YtnllcmcahfkmaaaDoor
namespace Go.Proofs.YtnllcmcahfkmaaaDoor
open Go.RowKit
set_option maxRecDepth 100000

/-- A node. -/
structure Nd where
  key : List Int
  fork : Int
  lo : Option Addr
  hi : Option Addr
  own : List Int
  told : Bool
  high : List Int
  lvl : Int
  known : Bool
def Nd.row (n : Nd) : List Value := hc n.key ++ ([.int .i64 n.fork, .pointer n.lo, .pointer n.hi] ++ (hc n.own ++ ([.bool n.told] ++ (hc n.high ++ [.int .i64 n.lvl, .bool n.known]))))
structure Nd.ok (n : Nd) : Prop where
  key : n.key.length = 32
  own : n.own.length = 32
  high : n.high.length = 32
theorem Nd.ok.len {n : Nd} (h : n.ok) : n.row.length = 102 := by simp [Nd.row, hc_len, h.key, h.own, h.high]
theorem Nd.one (n : Nd) : n.row.toArray.all (·.oneCell') = true := by
  refine all_oneCell_toArray fun v hv => ?_
  simp only [Nd.row, List.mem_append, List.mem_cons, List.not_mem_nil, or_false] at hv
  rcases hv with hv | (rfl | rfl | rfl) | hv | rfl | hv | rfl | rfl
  any_goals rfl
  all_goals exact (Array.all_eq_true_iff_forall_mem.1 (hc_one _)) v (by simpa using hv)
def nd0 : Nd := ⟨zero32, 0, none, none, zero32, false, zero32, 0, false⟩
theorem take_midd (pre mid post : List Value) {o n : Nat} (hp : pre.length = o) (hm : mid.length = n) : ((pre ++ (mid ++ post)).drop o).take n = mid := by
  subst hp hm
  rw [List.drop_left, List.take_left]

/-- Block b holds the node n. -/
def NdB (w : World) (b : Nat) (n : Nd) : Prop := w.heap[b]? = some (.cells n.row.toArray 100 (0, 0))
section
variable {w w' : World} {b : Nat} {n : Nd}
theorem NdB.lt (h : NdB w b n) : b < w.heap.size := (Array.getElem?_eq_some_iff.1 h).1
theorem NdB.facts (h : NdB w b n) (ok : n.ok) : w.cell? ⟨b, 32, none⟩ = some (.int .i64 n.fork) ∧ w.cell? ⟨b, 33, none⟩ = some (.pointer n.lo) ∧ w.cell? ⟨b, 34, none⟩ = some (.pointer n.hi) ∧ w.cell? ⟨b, 67, none⟩ = some (.bool n.told) ∧
    w.cell? ⟨b, 100, none⟩ = some (.int .i64 n.lvl) ∧ w.cell? ⟨b, 101, none⟩ = some (.bool n.known) ∧ rowOf w b 0 32 = hc n.key ∧ rowOf w b 35 32 = hc n.own ∧ rowOf w b 68 32 = hc n.high := by
  refine ⟨?_, ?_, ?_, ?_, ?_, ?_, ?_, ?_, ?_⟩
  all_goals first
    | (rw [cell_of_row _ _ _ _ _ _ h]; simp [Nd.row, hc_len, ok.key, ok.own, ok.high]; done)
    | skip
  · rw [rowOf_block h]
    simp [Nd.row, hc_len, ok.key]
  · rw [rowOf_block h]
    have := take_midd (hc n.key ++ [.int .i64 n.fork, .pointer n.lo, .pointer n.hi]) (hc n.own) ([.bool n.told] ++ (hc n.high ++ [.int .i64 n.lvl, .bool n.known])) (o := 35) (n := 32) (by simp [hc_len, ok.key]) (by simp [hc_len, ok.own])
    simpa [Nd.row] using this
  · rw [rowOf_block h]
    have := take_midd (hc n.key ++ ([.int .i64 n.fork, .pointer n.lo, .pointer n.hi] ++ (hc n.own ++ [.bool n.told]))) (hc n.high) [.int .i64 n.lvl, .bool n.known] (o := 68) (n := 32) (by simp [hc_len, ok.key, ok.own]) (by simp [hc_len, ok.high])
    simpa [Nd.row] using this
theorem NdB.free (h : NdB w b n) (i : Nat) : w.frozen? ⟨b, i, none⟩ = false := Joins.unfrozen_of_block h i
theorem NdB.there (h : NdB w b n) (ok : n.ok) {i k : Nat} (hi : i + k ≤ 102) : w.there b i k := fun j hj => by
  refine ⟨?_, h.free _⟩
  rw [cell_of_row _ _ _ _ _ _ h]
  have := ok.len
  simp [this]; omega
theorem NdB.chg {S : List Nat} (h : NdB w b n) (hc : Chg w w' S) (hp : b ∉ S) : NdB w' b n := by
  unfold NdB
  rw [hc.block b h.lt hp]; exact h
theorem NdB.on (h : NdB w b n) (hb : Below w.heap.size w w') : NdB w' b n := h.chg (S := []) (Chg.below hb (Nat.le_refl _) []) (by simp)
theorem NdB.alloc (h : NdB w b n) (x : Obj) : NdB (w.alloc x) b n := h.on ((Below.refl _ _).alloc (Nat.le_refl _) x)
theorem NdB.setOwn (h : NdB w b n) (ok : n.ok) {F : List Int} (hF : F.length = 32) : NdB (w.setCells b 35 (hc F)) b { n with own := F } := by
  have := setCells_block (b := b) (t := 100) (fr := (0, 0)) (hc F) (o := 35) (w := w) (pre := hc n.key ++ [.int .i64 n.fork, .pointer n.lo, .pointer n.hi]) (mid := hc n.own) (post := [.bool n.told] ++ (hc n.high ++ [.int .i64 n.lvl, .bool n.known])) (by simpa [NdB, Nd.row] using h) (by simp [hc_len, ok.key]) (by rw [hc_len, hc_len, ok.own, hF])
  simpa [NdB, Nd.row] using this
theorem NdB.setHigh (h : NdB w b n) (ok : n.ok) {F : List Int} (hF : F.length = 32) : NdB (w.setCells b 68 (hc F)) b { n with high := F } := by
  have := setCells_block (b := b) (t := 100) (fr := (0, 0)) (hc F) (o := 68) (w := w) (pre := hc n.key ++ ([.int .i64 n.fork, .pointer n.lo, .pointer n.hi] ++ (hc n.own ++ [.bool n.told]))) (mid := hc n.high) (post := [.int .i64 n.lvl, .bool n.known]) (by simpa [NdB, Nd.row] using h) (by simp [hc_len, ok.key, ok.own]) (by rw [hc_len, hc_len, ok.high, hF])
  simpa [NdB, Nd.row] using this
theorem NdB.setTold (h : NdB w b n) (ok : n.ok) (x : Bool) : NdB (w.setCell ⟨b, 67, none⟩ (.bool x)) b { n with told := x } := by
  have := setCells_block (b := b) (t := 100) (fr := (0, 0)) [.bool x] (o := 67) (w := w) (pre := hc n.key ++ ([.int .i64 n.fork, .pointer n.lo, .pointer n.hi] ++ hc n.own)) (mid := [.bool n.told]) (post := hc n.high ++ [.int .i64 n.lvl, .bool n.known]) (by simpa [NdB, Nd.row] using h) (by simp [hc_len, ok.key, ok.own]) rfl
  simpa [NdB, Nd.row, World.setCells] using this
theorem NdB.setLvl (h : NdB w b n) (ok : n.ok) (x : Int) : NdB (w.setCell ⟨b, 100, none⟩ (.int .i64 x)) b { n with lvl := x } := by
  have := setCells_block (b := b) (t := 100) (fr := (0, 0)) [.int .i64 x] (o := 100) (w := w) (pre := hc n.key ++ ([.int .i64 n.fork, .pointer n.lo, .pointer n.hi] ++ (hc n.own ++ ([.bool n.told] ++ hc n.high)))) (mid := [.int .i64 n.lvl]) (post := [.bool n.known]) (by simpa [NdB, Nd.row] using h) (by simp [hc_len, ok.key, ok.own, ok.high]) rfl
  simpa [NdB, Nd.row, World.setCells] using this
theorem NdB.setKnown (h : NdB w b n) (ok : n.ok) (x : Bool) : NdB (w.setCell ⟨b, 101, none⟩ (.bool x)) b { n with known := x } := by
  have := setCells_block (b := b) (t := 100) (fr := (0, 0)) [.bool x] (o := 101) (w := w) (pre := hc n.key ++ ([.int .i64 n.fork, .pointer n.lo, .pointer n.hi] ++ (hc n.own ++ ([.bool n.told] ++ (hc n.high ++ [.int .i64 n.lvl]))))) (mid := [.bool n.known]) (post := []) (by simpa [NdB, Nd.row] using h) (by simp [hc_len, ok.key, ok.own, ok.high]) rfl
  simpa [NdB, Nd.row, World.setCells] using this
end

/-! ### Building a node -/
theorem fill_at {place : Nat → Option (Nat × Nat)} {rest : List (Nat × Value)} {i off size : Nat} {v : Value} {pre mid post vs : List Value} (hp : place i = some (off, size)) (hv : v.cells = vs.toArray)
    (h1 : pre.length = off) (h2 : mid.length = size) (h3 : vs.length = size) :
    Instr.fill place (pre ++ (mid ++ post)).toArray ((i, v) :: rest) = Instr.fill place (pre ++ (vs ++ post)).toArray rest := by
  rw [Instr.fill, hp]
  have e1 : v.cells.size = size := by rw [hv]; simpa using h3
  have e2 : off + size ≤ (pre ++ (mid ++ post)).toArray.size := by simp; omega
  have e3 : (decide (v.cells.size ≠ size) || decide (off + v.cells.size > (pre ++ (mid ++ post)).toArray.size)) = false := by
    rw [e1]; simp at e2 ⊢; omega
  simp only [e3]
  rw [if_neg (by simp), hv, fold_put off size vs pre mid post h1 h2 h3]
def ndPlaces : List (Nat × Nat) := [(0, 32), (32, 1), (33, 2), (35, 32), (67, 1), (68, 32), (100, 1), (101, 1)]
theorem Tryd.built_nd (ps : List (Nat × Value)) : Tryd.prog.built 100 ps = Instr.fill (fun i => ndPlaces.toArray[i]?) nd0.row.toArray ps := by kernel_rfl
@[go_sem ↓] theorem Tryd.build_nd (ps : Array (Nat × Value)) : Instr.build 100 ps = rowBuild 100 ps := rfl
@[go_sem] theorem Tryd.run_nd (w : World) (f : Int) (F : List Int) (hF : F.length = 32) :
    (rowBuild 100 #[(0, .agg (hc F).toArray), (1, .int .i64 f)]).run Tryd.prog w = .ok (.agg (Nd.row ⟨F, f, none, none, zero32, false, zero32, 0, false⟩).toArray) w := by
  refine run_build w _ _ _ ?_
  rw [Tryd.built_nd]
  show Instr.fill _ _ ((0, Value.agg (hc F).toArray) :: (1, Value.int .i64 f) :: []) = _
  have z1 : nd0.row = [] ++ (hc zero32 ++ ([.int .i64 0] ++ ([.pointer none, .pointer none] ++ (hc zero32 ++ ([.bool false] ++ (hc zero32 ++ [.int .i64 0, .bool false])))))) := rfl
  rw [z1, fill_at (i := 0) (off := 0) (size := 32) (vs := hc F) rfl rfl rfl rfl (by rw [hc_len, hF])]
  rw [List.nil_append]
  rw [fill_at (i := 1) (off := 32) (size := 1) (vs := [.int .i64 f]) rfl rfl (by rw [hc_len, hF]) rfl rfl]
  simp [Nd.row, Instr.fill]
def K1 : List Int := [1, 0, 0, 0, 0, 0, 0, 0, 0, 0, 0, 0, 0, 0, 0, 0, 0, 0, 0, 0, 0, 0, 0, 0, 0, 0, 0, 0, 0, 0, 0, 0]
def V2 : List Int := [2, 0, 0, 0, 0, 0, 0, 0, 0, 0, 0, 0, 0, 0, 0, 0, 0, 0, 0, 0, 0, 0, 0, 0, 0, 0, 0, 0, 0, 0, 0, 0]
@[go_sem] theorem K1_len : K1.length = 32 := by simp [K1]
@[go_sem] theorem V2_len : V2.length = 32 := by simp [V2]
@[go_sem] theorem Tryd.run_hash1 (w : World) : (rowBuild 43 #[(0, .int .u8 1)]).run Tryd.prog w = .ok (.agg (hc K1).toArray) w := by
  unfold rowBuild; kernel_rfl
@[go_sem] theorem Tryd.run_hash2 (w : World) : (rowBuild 43 #[(0, .int .u8 2)]).run Tryd.prog w = .ok (.agg (hc V2).toArray) w := by
  unfold rowBuild; kernel_rfl

/-! ### A map of one pair -/
/-- The world with another map in a block. -/
def putMap (w : World) (b : Nat) (es : Array MapEntry) (c : Nat) : World := { w with heap := w.heap.setIfInBounds b (.map es c) }
section
variable {P : Program} {w : World} {t k e : TypeId} {b c : Nat} {es : Array MapEntry} {key : Value}
theorem getMap (hb : w.heap[b]? = some (.map es c)) : (getObj b).run P w = .ok (.map es c) w := by simp [getObj, Sem.run, hb]
theorem setMap (o : Obj) (hb : w.heap[b]? = some (.map es c)) : (setObj b o).run P w = .ok () { w with heap := w.heap.setIfInBounds b o } := by simp [setObj, Sem.run, hb]
theorem run_lookup_at {r : Option (Nat × Value)} {z : Value} (ok : Bool) (ht : P.underlying t = some (.map k e)) (hb : w.heap[b]? = some (.map es c)) (hc : (Instr.checkKey es.isEmpty 10000 k key).run P w = .ok () w) (hf : (Instr.findKey k key es.toList).run P w = .ok r w) (hz : (zeroValue e).run P w = .ok z w) :
    (Instr.lookup t (.map (some b)) key ok).run P w = .ok (if ok then .tuple #[(r.map (·.2)).getD z, .bool r.isSome] else (r.map (·.2)).getD z) w := by
  unfold Instr.lookup
  simp only [Sem.run_bind, run_underlying ht, Result.andThen_ok, getMap hb, Sem.run_pure, hc, hf]
  cases r <;> simp [hz]
theorem run_mapUpdate_new {v : Value} (ht : P.underlying t = some (.map k e)) (hb : w.heap[b]? = some (.map es c)) (hc : (Instr.checkKey false 10000 k key).run P w = .ok () w) (hf : (Instr.findKey k key es.toList).run P w = .ok none w) :
    (Instr.mapUpdate t (.map (some b)) key v).run P w = .ok () (putMap w b (es.push { key := key, val := v, born := c }) (c + 1)) := by
  unfold Instr.mapUpdate
  simp only [Sem.run_bind, run_underlying ht, Result.andThen_ok, getMap hb, hc, hf, setMap _ hb]
  rfl
theorem run_delete_at {i : Nat} {v : Value} (ty : TypeId) (ht : P.underlying t = some (.map k e)) (hb : w.heap[b]? = some (.map es c)) (hc : (Instr.checkKey es.isEmpty 10000 k key).run P w = .ok () w) (hf : (Instr.findKey k key es.toList).run P w = .ok (some (i, v)) w) :
    (Builtin.delete_ #[t, k] ty #[.map (some b), key]).run P w = .ok (.tuple #[]) (putMap w b (es.eraseIdxIfInBounds i) c) := by
  simp [Builtin.delete_, run_underlying ht, getMap hb, hc, hf, setMap _ hb, putMap]
theorem run_len_at (ty : TypeId) (ht : P.underlying t = some (.map k e)) (hb : w.heap[b]? = some (.map es c)) :
    (Builtin.len_ #[t] ty #[.map (some b)]).run P w = .ok (.int .i64 es.size) w := by
  simp [Builtin.len_, run_underlying ht, getMap hb, goInt]
end
theorem ck_k1 (x : Bool) (w : World) : (Instr.checkKey x 10000 43 (.agg (hc K1).toArray)).run Tryd.prog w = .ok () w := by cases x <;> kernel_rfl
def M1 (v : Value) : Array MapEntry := #[{ key := .agg (hc K1).toArray, val := v, born := 0 }]
theorem find_k1 (v : Value) (w : World) : (Instr.findKey 43 (.agg (hc K1).toArray) (M1 v).toList).run Tryd.prog w = .ok (some (0, v)) w := by kernel_rfl
section
variable {w : World} {b c : Nat}
theorem look_m0 (ok : Bool) (hb : w.heap[b]? = some (.map #[] c)) : (Instr.lookup 75 (.map (some b)) (.agg (hc K1).toArray) ok).run Tryd.prog w = .ok (if ok then .tuple #[.agg (hc zero32).toArray, .bool false] else .agg (hc zero32).toArray) w :=
  run_lookup_at (r := none) ok Tryd.underlying75 hb (ck_k1 _ w) (by kernel_rfl) (Tryd.zero_hash w)
theorem look_m1 (ok : Bool) {v : Value} (hb : w.heap[b]? = some (.map (M1 v) c)) : (Instr.lookup 75 (.map (some b)) (.agg (hc K1).toArray) ok).run Tryd.prog w = .ok (if ok then .tuple #[v, .bool true] else v) w :=
  run_lookup_at (r := some (0, v)) ok Tryd.underlying75 hb (ck_k1 _ w) (find_k1 v w) (Tryd.zero_hash w)
theorem upd_m0 {v : Value} (hb : w.heap[b]? = some (.map #[] 0)) : (Instr.mapUpdate 75 (.map (some b)) (.agg (hc K1).toArray) v).run Tryd.prog w = .ok () (putMap w b (M1 v) 1) :=
  run_mapUpdate_new Tryd.underlying75 hb (ck_k1 _ w) (by kernel_rfl)
theorem del_m1 {v : Value} (ty : TypeId) (hb : w.heap[b]? = some (.map (M1 v) 1)) : (Builtin.delete_ #[75, 43] ty #[.map (some b), .agg (hc K1).toArray]).run Tryd.prog w = .ok (.tuple #[]) (putMap w b #[] 1) := by
  have h := run_delete_at ty Tryd.underlying75 hb (ck_k1 _ w) (find_k1 v w)
  rw [show (M1 v).eraseIdxIfInBounds 0 = #[] by simp [M1, Array.eraseIdxIfInBounds]] at h
  exact h
end
theorem putMap_size (w : World) (b : Nat) (es : Array MapEntry) (c : Nat) : (putMap w b es c).heap.size = w.heap.size := by simp [putMap]
theorem putMap_there {w : World} {b : Nat} {es : Array MapEntry} {c : Nat} (h : b < w.heap.size) : (putMap w b es c).heap[b]? = some (.map es c) := by simp [putMap, h]
theorem putMap_other {w : World} {b k : Nat} {es : Array MapEntry} {c : Nat} (h : k ≠ b) : (putMap w b es c).heap[k]? = w.heap[k]? := by simp [putMap, Array.getElem?_setIfInBounds_ne (Ne.symm h)]
end Go.Proofs.YtnllcmcahfkmaaaDoor
