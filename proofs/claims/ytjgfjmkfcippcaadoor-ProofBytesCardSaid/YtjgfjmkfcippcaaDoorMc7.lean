/-
  SHA-256 over naturals, quick for the kernel, and that it is the digest.; The way up from a leaf, alone in a sparse tree: plain, and over naturals, so that the kernel reckons it.; Package smt: the small walks on a map of one pair: made, bit, here, climb, above.; Package smt: what stands at a leaf's own depth, in a map of one pair.
-/
import Derived.Test.YtjgfjmkfcippcaaDoorMc1
import Derived.Test.YtjgfjmkfcippcaaDoorMc3
import Derived.Test.YtjgfjmkfcippcaaDoorMc6
namespace Go.Proofs.YtjgfjmkfcippcaaDoor
open Go.RowKit
set_option maxRecDepth 100000

/-! ### The numbers -/
theorem wrap_u32n (n : Int) : IntKind.u32.wrap n = n % 4294967296 := by simp [IntKind.wrap, IntKind.bits, IntKind.signed]
theorem bv32 (a : Nat) (ha : a < 4294967296) : (BitVec.ofInt 32 (a : Int)).toNat = a := by
  rw [BitVec.ofInt_natCast, BitVec.toNat_ofNat]; exact Nat.mod_eq_of_lt (by omega)
theorem xorN (a b : Nat) (ha : a < 4294967296) (hb : b < 4294967296) : bits .xor .u32 (a : Int) (b : Int) = ((Nat.xor a b : Nat) : Int) ∧ Nat.xor a b < 4294967296 := by
  have hx : a ^^^ b < 2 ^ 32 := Nat.xor_lt_two_pow (by omega) (by omega)
  refine ⟨?_, by exact hx⟩
  show IntKind.u32.wrap ((BitVec.ofInt 32 (a : Int) ^^^ BitVec.ofInt 32 (b : Int)).toNat : Int) = ((a ^^^ b : Nat) : Int)
  rw [BitVec.toNat_xor, bv32 a ha, bv32 b hb, wrap_u32n]
  omega
theorem orN (a b : Nat) (ha : a < 4294967296) (hb : b < 4294967296) : bits .or .u32 (a : Int) (b : Int) = ((Nat.lor a b : Nat) : Int) ∧ Nat.lor a b < 4294967296 := by
  have hx : a ||| b < 2 ^ 32 := Nat.or_lt_two_pow (by omega) (by omega)
  refine ⟨?_, by exact hx⟩
  show IntKind.u32.wrap ((BitVec.ofInt 32 (a : Int) ||| BitVec.ofInt 32 (b : Int)).toNat : Int) = ((a ||| b : Nat) : Int)
  rw [BitVec.toNat_or, bv32 a ha, bv32 b hb, wrap_u32n]
  omega
theorem andN (a b : Nat) (ha : a < 4294967296) (hb : b < 4294967296) : bits .and .u32 (a : Int) (b : Int) = ((Nat.land a b : Nat) : Int) ∧ Nat.land a b < 4294967296 := by
  have hx : a &&& b < 2 ^ 32 := Nat.and_lt_two_pow _ (by omega)
  refine ⟨?_, by exact hx⟩
  show IntKind.u32.wrap ((BitVec.ofInt 32 (a : Int) &&& BitVec.ofInt 32 (b : Int)).toNat : Int) = ((a &&& b : Nat) : Int)
  rw [BitVec.toNat_and, bv32 a ha, bv32 b hb, wrap_u32n]
  omega
def rotN (c d x : Nat) : Nat := Nat.lor (Nat.mod (Nat.mul x c) 4294967296) (Nat.div x d)
theorem rk_N {k : Int} {s : Nat} (c d : Nat) (hs : rsh k = s) (hc : 2 ^ s = c) (hd : 2 ^ (32 - s) = d) (x : Nat) (hx : x < 4294967296) : rk k (x : Int) = ((rotN c d x : Nat) : Int) ∧ rotN c d x < 4294967296 := by
  have h1 : Nat.mod (Nat.mul x c) 4294967296 < 4294967296 := Nat.mod_lt _ (by decide)
  have h2 : Nat.div x d < 4294967296 := Nat.lt_of_le_of_lt (Nat.div_le_self x d) hx
  have h := orN _ _ h1 h2
  refine ⟨?_, h.2⟩
  have e1 : ((x : Int) * 2 ^ s % 4294967296) = ((Nat.mod (Nat.mul x c) 4294967296 : Nat) : Int) := by
    show _ = ((x * c % 4294967296 : Nat) : Int)
    subst hc
    rw [Int.natCast_emod, Int.natCast_mul, Int.natCast_pow]
    rfl
  have e2 : ((x : Int) / 2 ^ (32 - s)) = ((Nat.div x d : Nat) : Int) := by
    show _ = ((x / d : Nat) : Int)
    subst hd
    rw [Int.natCast_ediv, Int.natCast_pow]
    rfl
  unfold rk
  rw [hs, e1, e2]
  exact h.1
def wdN (a b c d : Nat) : Nat := Nat.lor (Nat.lor (Nat.lor (Nat.mul a 16777216) (Nat.mul b 65536)) (Nat.mul c 256)) d
theorem wd_N {B : Nat → Int} {i : Nat} {a b c d : Nat} (ha : a < 256) (hb : b < 256) (hc : c < 256) (hd : d < 256) (h0 : B (4 * i) = a) (h1 : B (4 * i + 1) = b) (h2 : B (4 * i + 2) = c) (h3 : B (4 * i + 3) = d) : wd B i = ((wdN a b c d : Nat) : Int) ∧ wdN a b c d < 4294967296 := by
  have e1 := orN (a * 16777216) (b * 65536) (by omega) (by omega)
  have e2 := orN _ (c * 256) e1.2 (by omega)
  have e3 := orN _ d e2.2 (by omega)
  refine ⟨?_, e3.2⟩
  unfold wd
  rw [h0, h1, h2, h3]
  rw [show ((a : Int) * 16777216) = ((a * 16777216 : Nat) : Int) by omega, show ((b : Int) * 65536) = ((b * 65536 : Nat) : Int) by omega, show ((c : Int) * 256) = ((c * 256 : Nat) : Int) by omega]
  rw [e1.1, e2.1, e3.1]
  rfl
def sg0N (x : Nat) : Nat := Nat.xor (Nat.xor (rotN 33554432 128 x) (rotN 16384 262144 x)) (Nat.div x 8)
def sg1N (x : Nat) : Nat := Nat.xor (Nat.xor (rotN 32768 131072 x) (rotN 8192 524288 x)) (Nat.div x 1024)
def faN (x : Nat) : Nat := Nat.xor (Nat.xor (rotN 1073741824 4 x) (rotN 524288 8192 x)) (rotN 1024 4194304 x)
def feN (x : Nat) : Nat := Nat.xor (Nat.xor (rotN 67108864 64 x) (rotN 2097152 2048 x)) (rotN 128 33554432 x)
def fchN (e f g : Nat) : Nat := Nat.xor (Nat.land e f) (Nat.land (Nat.xor 4294967295 e) g)
def fmjN (a b c : Nat) : Nat := Nat.xor (Nat.xor (Nat.land a b) (Nat.land a c)) (Nat.land b c)
theorem sg0_N (x : Nat) (hx : x < 4294967296) : sg0 x = ((sg0N x : Nat) : Int) ∧ sg0N x < 4294967296 := by
  have h1 := rk_N (k := -7) (s := 25) 33554432 128 (by decide) (by decide) (by decide) x hx
  have h2 := rk_N (k := -18) (s := 14) 16384 262144 (by decide) (by decide) (by decide) x hx
  have h3 : x / 8 < 4294967296 := by omega
  have e1 := xorN _ _ h1.2 h2.2
  have e2 := xorN _ _ e1.2 h3
  refine ⟨?_, e2.2⟩
  unfold sg0
  rw [h1.1, h2.1, e1.1, show ((x : Int) / 8) = ((x / 8 : Nat) : Int) by omega, e2.1]
  rfl
theorem sg1_N (x : Nat) (hx : x < 4294967296) : sg1 x = ((sg1N x : Nat) : Int) ∧ sg1N x < 4294967296 := by
  have h1 := rk_N (k := -17) (s := 15) 32768 131072 (by decide) (by decide) (by decide) x hx
  have h2 := rk_N (k := -19) (s := 13) 8192 524288 (by decide) (by decide) (by decide) x hx
  have h3 : x / 1024 < 4294967296 := by omega
  have e1 := xorN _ _ h1.2 h2.2
  have e2 := xorN _ _ e1.2 h3
  refine ⟨?_, e2.2⟩
  unfold sg1
  rw [h1.1, h2.1, e1.1, show ((x : Int) / 1024) = ((x / 1024 : Nat) : Int) by omega, e2.1]
  rfl
theorem fa_N (x : Nat) (hx : x < 4294967296) : fa x = ((faN x : Nat) : Int) ∧ faN x < 4294967296 := by
  have h1 := rk_N (k := -2) (s := 30) 1073741824 4 (by decide) (by decide) (by decide) x hx
  have h2 := rk_N (k := -13) (s := 19) 524288 8192 (by decide) (by decide) (by decide) x hx
  have h3 := rk_N (k := -22) (s := 10) 1024 4194304 (by decide) (by decide) (by decide) x hx
  have e1 := xorN _ _ h1.2 h2.2
  have e2 := xorN _ _ e1.2 h3.2
  refine ⟨?_, e2.2⟩
  unfold fa
  rw [h1.1, h2.1, e1.1, h3.1, e2.1]
  rfl
theorem fe_N (x : Nat) (hx : x < 4294967296) : fe x = ((feN x : Nat) : Int) ∧ feN x < 4294967296 := by
  have h1 := rk_N (k := -6) (s := 26) 67108864 64 (by decide) (by decide) (by decide) x hx
  have h2 := rk_N (k := -11) (s := 21) 2097152 2048 (by decide) (by decide) (by decide) x hx
  have h3 := rk_N (k := -25) (s := 7) 128 33554432 (by decide) (by decide) (by decide) x hx
  have e1 := xorN _ _ h1.2 h2.2
  have e2 := xorN _ _ e1.2 h3.2
  refine ⟨?_, e2.2⟩
  unfold fe
  rw [h1.1, h2.1, e1.1, h3.1, e2.1]
  rfl
theorem fch_N (e f g : Nat) (he : e < 4294967296) (hf : f < 4294967296) (hg : g < 4294967296) : fch e f g = ((fchN e f g : Nat) : Int) ∧ fchN e f g < 4294967296 := by
  have h1 := andN e f he hf
  have h2 := xorN 4294967295 e (by decide) he
  have h3 := andN _ g h2.2 hg
  have h4 := xorN _ _ h1.2 h3.2
  refine ⟨?_, h4.2⟩
  unfold fch notI
  rw [show (if IntKind.u32.signed = true then -1 else IntKind.u32.max) = ((4294967295 : Nat) : Int) by decide, h1.1, h2.1, h3.1, h4.1]
  rfl
theorem fmj_N (a b c : Nat) (ha : a < 4294967296) (hb : b < 4294967296) (hc : c < 4294967296) : fmj a b c = ((fmjN a b c : Nat) : Int) ∧ fmjN a b c < 4294967296 := by
  have h1 := andN a b ha hb
  have h2 := andN a c ha hc
  have h3 := andN b c hb hc
  have h4 := xorN _ _ h1.2 h2.2
  have h5 := xorN _ _ h4.2 h3.2
  refine ⟨?_, h5.2⟩
  unfold fmj
  rw [h1.1, h2.1, h4.1, h3.1, h5.1]
  rfl
def pN (x y : Nat) : Nat := Nat.mod (Nat.add x y) 4294967296
theorem p_N (x y : Nat) : p32 x y = ((pN x y : Nat) : Int) ∧ pN x y < 4294967296 := by
  refine ⟨?_, Nat.mod_lt _ (by decide)⟩
  show _ = (((x + y) % 4294967296 : Nat) : Int)
  unfold p32
  omega

/-! ### The state -/
structure SN where
  a : Nat
  b : Nat
  c : Nat
  d : Nat
  e : Nat
  f : Nat
  g : Nat
  h : Nat
def SN.to (s : SN) : St8 := ⟨s.a, s.b, s.c, s.d, s.e, s.f, s.g, s.h⟩
structure SN.Ok (s : SN) : Prop where
  a : s.a < 4294967296
  b : s.b < 4294967296
  c : s.c < 4294967296
  d : s.d < 4294967296
  e : s.e < 4294967296
  f : s.f < 4294967296
  g : s.g < 4294967296
  h : s.h < 4294967296
def SN.u1 (s : SN) (k w : Nat) : Nat := Nat.mod (Nat.add (Nat.add (Nat.add (Nat.add s.h (feN s.e)) (fchN s.e s.f s.g)) k) w) 4294967296
def SN.u2 (s : SN) : Nat := Nat.mod (Nat.add (faN s.a) (fmjN s.a s.b s.c)) 4294967296
def SN.rnd (s : SN) (k w : Nat) : SN := ⟨pN (s.u1 k w) s.u2, s.a, s.b, s.c, pN s.d (s.u1 k w), s.e, s.f, s.g⟩
theorem SN.rnd_to {s : SN} (h : s.Ok) (k w : Nat) : s.to.rnd k w = (s.rnd k w).to ∧ (s.rnd k w).Ok := by
  have e1 := fe_N s.e h.e
  have e2 := fch_N s.e s.f s.g h.e h.f h.g
  have e3 := fa_N s.a h.a
  have e4 := fmj_N s.a s.b s.c h.a h.b h.c
  have u1 : s.to.u1 k w % 4294967296 = ((s.u1 k w : Nat) : Int) := by
    show (((s.h : Int) + fe s.e + fch s.e s.f s.g + k + w) % 4294967296) = (((s.h + feN s.e + fchN s.e s.f s.g + k + w) % 4294967296 : Nat) : Int)
    rw [e1.1, e2.1]
    omega
  have u2 : s.to.u2 % 4294967296 = ((s.u2 : Nat) : Int) := by
    show ((fa s.a + fmj s.a s.b s.c) % 4294967296) = (((faN s.a + fmjN s.a s.b s.c) % 4294967296 : Nat) : Int)
    rw [e3.1, e4.1]
    omega
  refine ⟨?_, (p_N _ _).2, h.a, h.b, h.c, (p_N _ _).2, h.e, h.f, h.g⟩
  unfold St8.rnd
  rw [u1, u2]
  show (⟨p32 (s.u1 k w : Nat) (s.u2 : Nat), s.a, s.b, s.c, p32 (s.d : Nat) (s.u1 k w : Nat), s.e, s.f, s.g⟩ : St8) = _
  rw [(p_N _ _).1, (p_N _ _).1]
  rfl
def SN.run (s : SN) : List Nat → List Nat → SN
  | k :: ks, w :: ws => (s.rnd k w).run ks ws
  | _, _ => s
theorem SN.run_snoc (k w : Nat) : ∀ (ks ws : List Nat) (s : SN), ks.length = ws.length → s.run (ks ++ [k]) (ws ++ [w]) = (s.run ks ws).rnd k w
  | [], [], s, _ => rfl
  | _ :: ks, _ :: ws, s, h => SN.run_snoc k w ks ws _ (by simpa using h)
  | [], _ :: _, _, h => by simp at h
  | _ :: _, [], _, h => by simp at h
def SN.add (s t : SN) : SN := ⟨pN s.a t.a, pN s.b t.b, pN s.c t.c, pN s.d t.d, pN s.e t.e, pN s.f t.f, pN s.g t.g, pN s.h t.h⟩
def nxtN (l : List Nat) : Nat := Nat.mod (Nat.add (Nat.add (Nat.add (l.getD 15 0) (sg0N (l.getD 14 0))) (l.getD 6 0)) (sg1N (l.getD 1 0))) 4294967296
theorem nxtN_lt (l : List Nat) : nxtN l < 4294967296 := Nat.mod_lt _ (by decide)
theorem nxtN_eq (l : List Nat) : nxtN l = (l.getD 15 0 + sg0N (l.getD 14 0) + l.getD 6 0 + sg1N (l.getD 1 0)) % 4294967296 := rfl
def growN : Nat → List Nat → List Nat
  | 0, l => l
  | n + 1, l => growN n (nxtN l :: l)
def rootsN : List Nat := [1116352408, 1899447441, 3049323471, 3921009573, 961987163, 1508970993, 2453635748, 2870763221, 3624381080, 310598401, 607225278, 1426881987, 1925078388, 2162078206, 2614888103, 3248222580, 3835390401, 4022224774, 264347078, 604807628, 770255983, 1249150122, 1555081692, 1996064986, 2554220882, 2821834349, 2952996808, 3210313671, 3336571891, 3584528711, 113926993, 338241895, 666307205, 773529912, 1294757372, 1396182291, 1695183700, 1986661051, 2177026350, 2456956037, 2730485921, 2820302411, 3259730800, 3345764771, 3516065817, 3600352804, 4094571909, 275423344, 430227734, 506948616, 659060556, 883997877, 958139571, 1322822218, 1537002063, 1747873779, 1955562222, 2024104815, 2227730452, 2361852424, 2428436474, 2756734187, 3204031479, 3329325298]
def SN.mix (s : SN) (ws : List Nat) : SN := s.add (s.run rootsN (growN 48 ws.reverse).reverse)
theorem rt_N {i : Nat} (hi : i < 64) : rt i = ((rootsN.getD i 0 : Nat) : Int) := by
  have e : rootsZ = rootsN.map (fun n : Nat => (n : Int)) := by rfl
  have hl : i < rootsN.length := hi
  unfold rt
  rw [e]
  simp [List.getD, hl]
/-- A row of words, the newest first. -/
def Sch (B : Nat → Int) (l : List Nat) : Prop := ∀ j, j < l.length → W B j = ((l.getD (l.length - 1 - j) 0 : Nat) : Int) ∧ l.getD (l.length - 1 - j) 0 < 4294967296
theorem Sch.grow {B : Nat → Int} {l : List Nat} (h : Sch B l) (h16 : 16 ≤ l.length) : Sch B (nxtN l :: l) := by
  intro j hj
  simp only [List.length_cons] at hj ⊢
  by_cases e : j = l.length
  · subst e
    have a := h (l.length - 16) (by omega)
    have b := h (l.length - 15) (by omega)
    have c := h (l.length - 7) (by omega)
    have d := h (l.length - 2) (by omega)
    rw [show l.length - 1 - (l.length - 16) = 15 by omega] at a
    rw [show l.length - 1 - (l.length - 15) = 14 by omega] at b
    rw [show l.length - 1 - (l.length - 7) = 6 by omega] at c
    rw [show l.length - 1 - (l.length - 2) = 1 by omega] at d
    rw [show l.length + 1 - 1 - l.length = 0 by omega, List.getD_cons_zero]
    refine ⟨?_, nxtN_lt l⟩
    rw [W_high B h16]
    unfold nxt
    rw [a.1, b.1, c.1, d.1, (sg0_N _ b.2).1, (sg1_N _ d.2).1, nxtN_eq]
    generalize l.getD 15 0 = x1
    generalize sg0N (l.getD 14 0) = x2
    generalize l.getD 6 0 = x3
    generalize sg1N (l.getD 1 0) = x4
    omega
  · have a := h j (by omega)
    rw [show l.length + 1 - 1 - j = (l.length - 1 - j) + 1 by omega, List.getD_cons_succ]
    exact a
theorem growN_len : ∀ n (l : List Nat), (growN n l).length = n + l.length
  | 0, l => by simp [growN]
  | n + 1, l => by rw [growN, growN_len n]; simp; omega
theorem Sch.grows {B : Nat → Int} : ∀ n {l : List Nat}, Sch B l → 16 ≤ l.length → Sch B (growN n l)
  | 0, _, h, _ => h
  | n + 1, _, h, h16 => Sch.grows n (h.grow h16) (by simp; omega)
theorem getD_reverse {l : List Nat} {j : Nat} (hj : j < l.length) : l.reverse.getD j 0 = l.getD (l.length - 1 - j) 0 := by
  simp only [List.getD_eq_getElem?_getD]
  rw [List.getElem?_reverse hj]
theorem SN.rounds_to {B : Nat → Int} {ws : List Nat} (hl : ws.length = 64) (hw : ∀ j, j < 64 → W B j = ((ws.getD j 0 : Nat) : Int)) {s : SN} (h : s.Ok) : ∀ n, n ≤ 64 → s.to.rounds B n = (s.run (rootsN.take n) (ws.take n)).to ∧ (s.run (rootsN.take n) (ws.take n)).Ok
  | 0, _ => by
    have e : s.run (rootsN.take 0) (ws.take 0) = s := by simp [SN.run]
    rw [e]; exact ⟨rfl, h⟩
  | n + 1, hn => by
    obtain ⟨h1, h2⟩ := SN.rounds_to hl hw h n (by omega)
    have e1 : rootsN.take (n + 1) = rootsN.take n ++ [rootsN.getD n 0] := by
      have hn' : n < rootsN.length := by show n < 64; omega
      rw [List.take_succ_eq_append_getElem hn']; simp [List.getD, hn']
    have e2 : ws.take (n + 1) = ws.take n ++ [ws.getD n 0] := by
      have hn' : n < ws.length := by omega
      rw [List.take_succ_eq_append_getElem hn']; simp [List.getD, hn']
    rw [e1, e2, SN.run_snoc _ _ _ _ _ (by have : rootsN.length = 64 := rfl; simp [hl, this]; try omega)]
    have h3 := SN.rnd_to h2 (rootsN.getD n 0) (ws.getD n 0)
    refine ⟨?_, h3.2⟩
    rw [← h3.1, St8.rounds, h1, rt_N (by omega), hw n (by omega)]
theorem SN.add_to (s t : SN) : s.to.add t.to = (s.add t).to ∧ (s.add t).Ok := by
  refine ⟨?_, (p_N _ _).2, (p_N _ _).2, (p_N _ _).2, (p_N _ _).2, (p_N _ _).2, (p_N _ _).2, (p_N _ _).2, (p_N _ _).2⟩
  show (⟨p32 (s.a : Nat) (t.a : Nat), p32 (s.b : Nat) (t.b : Nat), p32 (s.c : Nat) (t.c : Nat), p32 (s.d : Nat) (t.d : Nat), p32 (s.e : Nat) (t.e : Nat), p32 (s.f : Nat) (t.f : Nat), p32 (s.g : Nat) (t.g : Nat), p32 (s.h : Nat) (t.h : Nat)⟩ : St8) = _
  simp only [(p_N _ _).1]
  rfl
theorem SN.mix_to {B : Nat → Int} {ws : List Nat} (hl : ws.length = 16) (hw : ∀ j, j < 16 → wd B j = ((ws.getD j 0 : Nat) : Int) ∧ ws.getD j 0 < 4294967296) {s : SN} (h : s.Ok) : s.to.mix B = (s.mix ws).to ∧ (s.mix ws).Ok := by
  have h0 : Sch B ws.reverse := by
    intro j hj
    simp only [List.length_reverse] at hj ⊢
    have : ws.reverse.getD (ws.length - 1 - j) 0 = ws.getD j 0 := by
      rw [getD_reverse (by omega)]; congr 1; omega
    rw [this, W_low B (by omega)]
    exact hw j (by omega)
  have h1 := h0.grows 48 (by simp [hl])
  have hlen : (growN 48 ws.reverse).length = 64 := by rw [growN_len]; simp [hl]
  have h2 := SN.rounds_to (B := B) (ws := (growN 48 ws.reverse).reverse) (by simp [hlen]) (fun j hj => by rw [getD_reverse (by omega)]; exact (h1 j (by omega)).1) h 64 (by omega)
  rw [List.take_of_length_le (by show 64 ≤ 64; omega), List.take_of_length_le (by simp [hlen])] at h2
  unfold St8.mix
  rw [h2.1]
  exact SN.add_to _ _

/-! ### The digest -/
def wordsN : List Nat → List Nat
  | a :: b :: c :: d :: r => wdN a b c d :: wordsN r
  | _ => []
def ivN : SN := ⟨1779033703, 3144134277, 1013904242, 2773480762, 1359893119, 2600822924, 528734635, 1541459225⟩
theorem ivN_ok : ivN.Ok := by constructor <;> (simp only [ivN]; omega)
theorem ivN_to : ivN.to = iv := by simp only [ivN, SN.to, iv]; congr 1
def be4N (n : Nat) : List Nat := [Nat.mod (Nat.div n 16777216) 256, Nat.mod (Nat.div n 65536) 256, Nat.mod (Nat.div n 256) 256, Nat.mod n 256]
def be8N (n : Nat) : List Nat := [Nat.mod (Nat.div n 72057594037927936) 256, Nat.mod (Nat.div n 281474976710656) 256, Nat.mod (Nat.div n 1099511627776) 256, Nat.mod (Nat.div n 4294967296) 256, Nat.mod (Nat.div n 16777216) 256, Nat.mod (Nat.div n 65536) 256, Nat.mod (Nat.div n 256) 256, Nat.mod n 256]
def SN.out (s : SN) : List Nat := be4N s.a ++ be4N s.b ++ be4N s.c ++ be4N s.d ++ be4N s.e ++ be4N s.f ++ be4N s.g ++ be4N s.h
def castL (l : List Nat) : List Int := l.map fun n : Nat => (n : Int)
theorem castL_app (l m : List Nat) : castL (l ++ m) = castL l ++ castL m := List.map_append
theorem castL_len (l : List Nat) : (castL l).length = l.length := List.length_map _
theorem castL_get (l : List Nat) (j : Nat) : (castL l).getD j 0 = ((l.getD j 0 : Nat) : Int) := by
  by_cases h : j < l.length
  · simp [castL, List.getD, h]
  · simp [castL, List.getD, h]
theorem be4_N (n : Nat) : be4 n = castL (be4N n) := by
  have e0 : ((Nat.mod (Nat.div n 16777216) 256 : Nat) : Int) = (n : Int) / 16777216 % 256 := by
    show ((n / 16777216 % 256 : Nat) : Int) = _
    omega
  have e1 : ((Nat.mod (Nat.div n 65536) 256 : Nat) : Int) = (n : Int) / 65536 % 256 := by
    show ((n / 65536 % 256 : Nat) : Int) = _
    omega
  have e2 : ((Nat.mod (Nat.div n 256) 256 : Nat) : Int) = (n : Int) / 256 % 256 := by
    show ((n / 256 % 256 : Nat) : Int) = _
    omega
  have e3 : ((Nat.mod n 256 : Nat) : Int) = (n : Int) % 256 := by
    show ((n % 256 : Nat) : Int) = _
    omega
  simp only [be4, be4N, castL, List.map_cons, List.map_nil, e0, e1, e2, e3]
theorem be8_N (n : Nat) : be8 n = castL (be8N n) := by
  have e0 : ((Nat.mod (Nat.div n 72057594037927936) 256 : Nat) : Int) = (n : Int) / 72057594037927936 % 256 := by
    show ((n / 72057594037927936 % 256 : Nat) : Int) = _
    omega
  have e1 : ((Nat.mod (Nat.div n 281474976710656) 256 : Nat) : Int) = (n : Int) / 281474976710656 % 256 := by
    show ((n / 281474976710656 % 256 : Nat) : Int) = _
    omega
  have e2 : ((Nat.mod (Nat.div n 1099511627776) 256 : Nat) : Int) = (n : Int) / 1099511627776 % 256 := by
    show ((n / 1099511627776 % 256 : Nat) : Int) = _
    omega
  have e3 : ((Nat.mod (Nat.div n 4294967296) 256 : Nat) : Int) = (n : Int) / 4294967296 % 256 := by
    show ((n / 4294967296 % 256 : Nat) : Int) = _
    omega
  have e4 : ((Nat.mod (Nat.div n 16777216) 256 : Nat) : Int) = (n : Int) / 16777216 % 256 := by
    show ((n / 16777216 % 256 : Nat) : Int) = _
    omega
  have e5 : ((Nat.mod (Nat.div n 65536) 256 : Nat) : Int) = (n : Int) / 65536 % 256 := by
    show ((n / 65536 % 256 : Nat) : Int) = _
    omega
  have e6 : ((Nat.mod (Nat.div n 256) 256 : Nat) : Int) = (n : Int) / 256 % 256 := by
    show ((n / 256 % 256 : Nat) : Int) = _
    omega
  have e7 : ((Nat.mod n 256 : Nat) : Int) = (n : Int) % 256 := by
    show ((n % 256 : Nat) : Int) = _
    omega
  simp only [be8, be8N, castL, List.map_cons, List.map_nil, e0, e1, e2, e3, e4, e5, e6, e7]
theorem SN.out_to (s : SN) : s.to.out = castL s.out := by
  unfold SN.out
  simp only [castL_app, ← be4_N]
  rfl
def ByN (l : List Nat) : Prop := ∀ x ∈ l, x < 256
theorem ByN.get {l : List Nat} (h : ByN l) (j : Nat) : l.getD j 0 < 256 := by
  by_cases hj : j < l.length
  · have : l.getD j 0 = l[j] := by simp [List.getD, hj]
    rw [this]; exact h _ (List.getElem_mem hj)
  · have : l.getD j 0 = 0 := by simp [List.getD, hj]
    rw [this]; omega
theorem wordsN_cons (a b c d : Nat) (r : List Nat) : wordsN (a :: b :: c :: d :: r) = wdN a b c d :: wordsN r := by rw [wordsN]
theorem wordsN_get : ∀ (n : Nat) (l : List Nat), l.length = 4 * n → ∀ i, i < n → (wordsN l).getD i 0 = wdN (l.getD (4 * i) 0) (l.getD (4 * i + 1) 0) (l.getD (4 * i + 2) 0) (l.getD (4 * i + 3) 0)
  | 0, _, _, i, hi => by omega
  | n + 1, l, hl, i, hi => by
    obtain ⟨a, b, c, d, r, rfl⟩ : ∃ a b c d r, l = a :: b :: c :: d :: r := by
      match l, hl with
      | a :: b :: c :: d :: r, _ => exact ⟨a, b, c, d, r, rfl⟩
      | [], h => simp at h
      | [_], h => simp at h; omega
      | [_, _], h => simp at h; omega
      | [_, _, _], h => simp at h; omega
    rw [wordsN_cons]
    rcases i with _ | i
    · simp only [List.getD_cons_zero, Nat.mul_zero, Nat.zero_add]
      rw [show (3 : Nat) = 0 + 1 + 1 + 1 by omega, show (2 : Nat) = 0 + 1 + 1 by omega, show (1 : Nat) = 0 + 1 by omega]
      simp only [List.getD_cons_succ, List.getD_cons_zero]
    · have h := wordsN_get n r (by simp at hl; omega) i (by omega)
      rw [show 4 * (i + 1) + 3 = (4 * i + 3) + 1 + 1 + 1 + 1 by omega, show 4 * (i + 1) + 2 = (4 * i + 2) + 1 + 1 + 1 + 1 by omega, show 4 * (i + 1) + 1 = (4 * i + 1) + 1 + 1 + 1 + 1 by omega, show 4 * (i + 1) = 4 * i + 1 + 1 + 1 + 1 by omega]
      simp only [List.getD_cons_succ]
      exact h
theorem wordsN_len : ∀ (n : Nat) (l : List Nat), l.length = 4 * n → (wordsN l).length = n
  | 0, l, h => by
    obtain rfl : l = [] := List.length_eq_zero_iff.1 (by omega)
    simp [wordsN]
  | n + 1, l, hl => by
    obtain ⟨a, b, c, d, r, rfl⟩ : ∃ a b c d r, l = a :: b :: c :: d :: r := by
      match l, hl with
      | a :: b :: c :: d :: r, _ => exact ⟨a, b, c, d, r, rfl⟩
      | [], h => simp at h
      | [_], h => simp at h; omega
      | [_, _], h => simp at h; omega
      | [_, _, _], h => simp at h; omega
    rw [wordsN_cons, List.length_cons, wordsN_len n r (by simp at hl; omega)]
def padN (xs : List Nat) : List Nat := xs ++ (128 :: (List.replicate (64 * nbk xs.length - xs.length - 9) 0 ++ be8N (8 * xs.length)))
theorem nbk_fits (n : Nat) : n + 9 ≤ 64 * nbk n := by unfold nbk; split <;> omega
theorem padN_len (xs : List Nat) : (padN xs).length = 64 * nbk xs.length := by
  have := nbk_fits xs.length
  simp [padN, be8N]; omega
theorem padN_get (xs : List Nat) {j : Nat} (hj : j < 64 * nbk xs.length) : padF (castL xs) j = (((padN xs).getD j 0 : Nat) : Int) := by
  have hf := nbk_fits xs.length
  unfold padF
  rw [castL_len, castL_get]
  simp only [padN, List.getD_eq_getElem?_getD]
  by_cases h1 : j < xs.length
  · rw [if_pos h1, List.getElem?_append_left h1]
  · rw [if_neg h1, List.getElem?_append_right (by omega)]
    by_cases h2 : j = xs.length
    · subst h2; simp
    · rw [if_neg h2]
      obtain ⟨m, hm⟩ : ∃ m, j - xs.length = m + 1 := ⟨j - xs.length - 1, by omega⟩
      rw [hm, List.getElem?_cons_succ]
      by_cases h3 : j + 8 < 64 * nbk xs.length
      · rw [if_pos h3, List.getElem?_append_left (by simp; omega)]
        rw [List.getElem?_replicate, if_pos (by omega)]
        rfl
      · rw [if_neg h3, List.getElem?_append_right (by simp; omega), List.length_replicate]
        rw [show (8 * (xs.length : Int)) = ((8 * xs.length : Nat) : Int) by omega, be8_N]
        rw [show j + 8 - 64 * nbk xs.length = m - (64 * nbk xs.length - xs.length - 9) by omega]
        have := castL_get (be8N (8 * xs.length)) (m - (64 * nbk xs.length - xs.length - 9))
        simpa only [List.getD_eq_getElem?_getD] using this
theorem padN_by {xs : List Nat} (h : ByN xs) : ByN (padN xs) := by
  intro x hx
  simp only [padN, List.mem_append, List.mem_cons, List.mem_replicate] at hx
  rcases hx with h1 | rfl | ⟨_, rfl⟩ | h1
  · exact h x h1
  · omega
  · omega
  · simp only [be8N, List.mem_cons, List.not_mem_nil, or_false] at h1
    rcases h1 with rfl | rfl | rfl | rfl | rfl | rfl | rfl | rfl <;> exact Nat.mod_lt _ (by decide)
def goN : Nat → SN → List Nat → SN
  | 0, s, _ => s
  | n + 1, s, ws => goN n (s.mix (ws.take 16)) (ws.drop 16)
def shaN (xs : List Nat) : List Nat := (goN (nbk xs.length) ivN (wordsN (padN xs))).out
theorem goN_to {xs : List Nat} (h : ByN xs) : ∀ (n i : Nat) (s : SN), i + n = nbk xs.length → s.Ok → s.to = shaSt (castL xs) i → (goN n s ((wordsN (padN xs)).drop (16 * i))).to = shaSt (castL xs) (i + n)
  | 0, i, s, _, _, hs => hs
  | n + 1, i, s, hn, ho, hs => by
    have hl := padN_len xs
    have hwl := wordsN_len (16 * nbk xs.length) (padN xs) (by omega)
    have hm := SN.mix_to (B := blkF (castL xs) i) (ws := ((wordsN (padN xs)).drop (16 * i)).take 16) (by simp [hwl]; omega) (fun j hj => by
      have e : (((wordsN (padN xs)).drop (16 * i)).take 16).getD j 0 = (wordsN (padN xs)).getD (16 * i + j) 0 := by
        simp only [List.getD_eq_getElem?_getD]
        rw [List.getElem?_take_of_lt hj, List.getElem?_drop]
      rw [e, wordsN_get (16 * nbk xs.length) (padN xs) (by omega) _ (by omega)]
      have hb := (padN_by h).get
      refine wd_N (hb _) (hb _) (hb _) (hb _) ?_ ?_ ?_ ?_
      all_goals
        unfold blkF
        rw [padN_get xs (by omega)]
        congr 2
        omega) ho
    have := goN_to h n (i + 1) _ (by omega) hm.2 (by rw [← hm.1, hs]; rfl)
    rw [show i + (n + 1) = i + 1 + n by omega, ← this]
    show (goN n _ (((wordsN (padN xs)).drop (16 * i)).drop 16)).to = _
    rw [List.drop_drop, show 16 * i + 16 = 16 * (i + 1) by omega]
/-- The digest of bytes, over naturals. -/
theorem sha_N {xs : List Nat} (h : ByN xs) : sha (castL xs) = castL (shaN xs) := by
  unfold sha shaN
  rw [← SN.out_to, castL_len]
  have := goN_to h (nbk xs.length) 0 ivN (by omega) ivN_ok ivN_to
  rw [Nat.zero_add] at this
  rw [← this]
  rfl
end Go.Proofs.YtjgfjmkfcippcaaDoor
namespace Go.Proofs.YtjgfjmkfcippcaaDoor
open Go.RowKit
set_option maxRecDepth 100000

/-- Bit i of a hash, the highest one first. -/
def bitI (K : List Int) (i : Nat) : Int := K.getD (i / 8) 0 / 2 ^ (7 - i % 8) % 2
/-- One level up, from level i + 1 to level i, with nothing beside. -/
def stp (K : List Int) (i : Nat) (h : List Int) : List Int := if bitI K i = 0 then abH h zero32 else abH zero32 h
/-- k levels up from the level f. -/
def upH (K : List Int) (f : Nat) (h : List Int) : Nat → List Int
  | 0 => h
  | k + 1 => stp K (f - 1 - k) (upH K f h k)
theorem stp_len (K : List Int) (i : Nat) (h : List Int) : (stp K i h).length = 32 := by unfold stp; split <;> exact abH_len _ _
theorem stp_bytes (K : List Int) (i : Nat) (h : List Int) : Bytes (stp K i h) := by unfold stp; split <;> exact abH_bytes _ _
theorem upH_len (K : List Int) (f : Nat) {h : List Int} (hh : h.length = 32) : ∀ k, (upH K f h k).length = 32
  | 0 => hh
  | _ + 1 => stp_len _ _ _
theorem upH_bytes (K : List Int) (f : Nat) {h : List Int} (hh : Bytes h) : ∀ k, Bytes (upH K f h k)
  | 0 => hh
  | _ + 1 => stp_bytes _ _ _
theorem stp_zero (K : List Int) (i : Nat) : stp K i zero32 = zero32 := by unfold stp; split <;> exact abH_zero
theorem upH_zero (K : List Int) (f : Nat) : ∀ k, upH K f zero32 k = zero32
  | 0 => rfl
  | k + 1 => by rw [upH, upH_zero K f k, stp_zero]
def upI (K : List Int) (f : Nat) : Nat → Nat → List Int → List Int
  | _, 0, h => h
  | k, n + 1, h => upI K f (k + 1) n (stp K (f - 1 - k) h)
theorem upH_add (K : List Int) (f : Nat) (h : List Int) : ∀ n k, upH K f h (k + n) = upI K f k n (upH K f h k)
  | 0, _ => rfl
  | n + 1, k => by
    rw [show k + (n + 1) = (k + 1) + n by omega, upH_add K f h n (k + 1)]
    rfl

/-! ### Over naturals -/
def z32N : List Nat := [0, 0, 0, 0, 0, 0, 0, 0, 0, 0, 0, 0, 0, 0, 0, 0, 0, 0, 0, 0, 0, 0, 0, 0, 0, 0, 0, 0, 0, 0, 0, 0]
theorem z32N_to : castL z32N = zero32 := by rfl
theorem z32N_by : ByN z32N := by
  intro x hx
  simp only [z32N, List.mem_cons, List.not_mem_nil, or_false, or_self] at hx
  omega
theorem castL_inj : ∀ {a b : List Nat}, castL a = castL b → a = b
  | [], [], _ => rfl
  | [], _ :: _, h => by simp [castL] at h
  | _ :: _, [], h => by simp [castL] at h
  | x :: a, y :: b, h => by
    simp only [castL, List.map_cons, List.cons.injEq] at h
    rw [castL_inj (a := a) (b := b) h.2, show x = y by omega]
def eqN : List Nat → List Nat → Bool
  | [], [] => true
  | a :: l, b :: m => cond (Nat.beq a b) (eqN l m) false
  | _, _ => false
theorem eqN_iff : ∀ {a b : List Nat}, eqN a b = true ↔ a = b
  | [], [] => by simp [eqN]
  | [], _ :: _ => by simp [eqN]
  | _ :: _, [] => by simp [eqN]
  | x :: a, y :: b => by
    have ih := eqN_iff (a := a) (b := b)
    by_cases e : x = y
    · subst e
      simp [eqN, ih]
    · have : Nat.beq x y = false := by
        rw [Bool.eq_false_iff]
        exact fun h => e (Nat.eq_of_beq_eq_true h)
      simp [eqN, this, e]
def frmN (t a b : List Nat) : List Nat := (t.length :: t) ++ ((be8N a.length ++ a) ++ (be8N b.length ++ b))
theorem frmN_to {s : ByteArray} {t : List Nat} (ht : sn s = castL t) (a b : List Nat) : frm (sn s) [castL a, castL b] = castL (frmN t a b) := by
  rw [ht]
  unfold frm frmN
  simp only [castL_app, castL_len, blobs, List.flatMap_cons, List.flatMap_nil, List.append_nil, be8_N]
  rfl
theorem be8N_by (n : Nat) : ByN (be8N n) := by
  intro x hx
  simp only [be8N, List.mem_cons, List.not_mem_nil, or_false] at hx
  rcases hx with rfl | rfl | rfl | rfl | rfl | rfl | rfl | rfl <;> exact Nat.mod_lt _ (by decide)
theorem ByN.app {a b : List Nat} (ha : ByN a) (hb : ByN b) : ByN (a ++ b) := by
  intro x hx
  rcases List.mem_append.1 hx with h | h
  · exact ha x h
  · exact hb x h
theorem frmN_by {t a b : List Nat} (ht : ByN t) (h255 : t.length < 256) (ha : ByN a) (hb : ByN b) : ByN (frmN t a b) := by
  refine ByN.app ?_ (((be8N_by _).app ha).app ((be8N_by _).app hb))
  intro x hx
  rcases List.mem_cons.1 hx with rfl | h
  · exact h255
  · exact ht x h
theorem be4N_by (n : Nat) : ByN (be4N n) := by
  intro x hx
  simp only [be4N, List.mem_cons, List.not_mem_nil, or_false] at hx
  rcases hx with rfl | rfl | rfl | rfl <;> exact Nat.mod_lt _ (by decide)
theorem shaN_by (xs : List Nat) : ByN (shaN xs) :=
  (((((((be4N_by _).app (be4N_by _)).app (be4N_by _)).app (be4N_by _)).app (be4N_by _)).app (be4N_by _)).app (be4N_by _)).app (be4N_by _)
def leafT : List Nat := [108, 101, 97, 102]
def pairT : List Nat := [112, 97, 105, 114]
theorem leafT_by : ByN leafT := by
  intro x hx
  simp only [leafT, List.mem_cons, List.not_mem_nil, or_false] at hx
  omega
theorem pairT_by : ByN pairT := by
  intro x hx
  simp only [pairT, List.mem_cons, List.not_mem_nil, or_false] at hx
  omega
def lfN (k v : List Nat) : List Nat := cond (eqN v z32N) z32N (shaN (frmN leafT k v))
def abN (a b : List Nat) : List Nat := cond (and (eqN a z32N) (eqN b z32N)) z32N (shaN (frmN pairT a b))
theorem eq_z32 (v : List Nat) : castL v = zero32 ↔ eqN v z32N = true := by
  rw [eqN_iff, ← z32N_to]
  exact ⟨castL_inj, fun h => by rw [h]⟩
theorem lfN_to {k v : List Nat} (hk : ByN k) (hv : ByN v) : lfH (castL k) (castL v) = castL (lfN k v) := by
  unfold lfH lfN
  by_cases h : eqN v z32N = true
  · rw [if_pos ((eq_z32 v).2 h), h]; exact z32N_to.symm
  · rw [if_neg (fun e => h ((eq_z32 v).1 e)), Bool.eq_false_iff.2 h, frmN_to (t := leafT) leaf_sn, sha_N (frmN_by leafT_by (by decide) hk hv)]
    rfl
theorem abN_to {a b : List Nat} (ha : ByN a) (hb : ByN b) : abH (castL a) (castL b) = castL (abN a b) := by
  unfold abH abN
  by_cases h : (and (eqN a z32N) (eqN b z32N)) = true
  · rw [h]
    rw [Bool.and_eq_true] at h
    rw [if_pos ⟨(eq_z32 a).2 h.1, (eq_z32 b).2 h.2⟩]
    exact z32N_to.symm
  · rw [if_neg (fun e => h (by rw [(eq_z32 a).1 e.1, (eq_z32 b).1 e.2]; rfl)), Bool.eq_false_iff.2 h, frmN_to (t := pairT) pair_sn, sha_N (frmN_by pairT_by (by decide) ha hb)]
    rfl
theorem abN_by (a b : List Nat) : ByN (abN a b) := by
  unfold abN
  cases and (eqN a z32N) (eqN b z32N)
  · exact shaN_by _
  · exact z32N_by
theorem lfN_by (k v : List Nat) : ByN (lfN k v) := by
  unfold lfN
  cases eqN v z32N
  · exact shaN_by _
  · exact z32N_by
def bitN (K : List Nat) (i : Nat) : Nat := Nat.mod (Nat.div (K.getD (i / 8) 0) (2 ^ (7 - i % 8))) 2
theorem bitN_to (K : List Nat) (i : Nat) : bitI (castL K) i = ((bitN K i : Nat) : Int) := by
  unfold bitI bitN
  rw [castL_get]
  show _ = ((K.getD (i / 8) 0 / 2 ^ (7 - i % 8) % 2 : Nat) : Int)
  rw [Int.natCast_emod, Int.natCast_ediv, Int.natCast_pow]
  rfl
def stpN (K : List Nat) (i : Nat) (h : List Nat) : List Nat := cond (Nat.beq (bitN K i) 0) (abN h z32N) (abN z32N h)
theorem stpN_to (K : List Nat) (i : Nat) {h : List Nat} (hh : ByN h) : stp (castL K) i (castL h) = castL (stpN K i h) := by
  unfold stp stpN
  rw [bitN_to, ← z32N_to, abN_to hh z32N_by, abN_to z32N_by hh]
  by_cases e : bitN K i = 0
  · rw [e]; rfl
  · rw [if_neg (by omega)]
    have : Nat.beq (bitN K i) 0 = false := by
      rw [Bool.eq_false_iff]
      exact fun h => e (Nat.eq_of_beq_eq_true h)
    rw [this]; rfl
theorem stpN_by (K : List Nat) (i : Nat) (h : List Nat) : ByN (stpN K i h) := by
  unfold stpN
  cases Nat.beq (bitN K i) 0 <;> exact abN_by _ _
def upN (K : List Nat) (f : Nat) : Nat → Nat → List Nat → List Nat
  | _, 0, h => h
  | k, n + 1, h => upN K f (k + 1) n (stpN K (f - 1 - k) h)
theorem upN_to (K : List Nat) (f : Nat) : ∀ n k {h : List Nat}, ByN h → upI (castL K) f k n (castL h) = castL (upN K f k n h) ∧ ByN (upN K f k n h)
  | 0, _, _, hh => ⟨rfl, hh⟩
  | n + 1, k, h, hh => by
    unfold upI upN
    rw [stpN_to K _ hh]
    exact upN_to K f n (k + 1) (stpN_by _ _ _)
/-- A further piece of the way, as the kernel reckoned it. -/
theorem up_more {K : List Nat} {f k n : Nat} {h : List Int} {a b : List Nat} (ha : upH (castL K) f h k = castL a ∧ ByN a) (hab : eqN (upN K f k n a) b = true) : upH (castL K) f h (k + n) = castL b ∧ ByN b := by
  have e := upN_to K f n k ha.2
  rw [eqN_iff.1 hab] at e
  exact ⟨by rw [upH_add, ha.1, e.1], e.2⟩
def k1N : List Nat := [1, 0, 0, 0, 0, 0, 0, 0, 0, 0, 0, 0, 0, 0, 0, 0, 0, 0, 0, 0, 0, 0, 0, 0, 0, 0, 0, 0, 0, 0, 0, 0]
def v2N : List Nat := [2, 0, 0, 0, 0, 0, 0, 0, 0, 0, 0, 0, 0, 0, 0, 0, 0, 0, 0, 0, 0, 0, 0, 0, 0, 0, 0, 0, 0, 0, 0, 0]
def rd0 : List Nat := [230, 229, 92, 170, 123, 30, 238, 46, 54, 112, 202, 237, 174, 145, 20, 36, 240, 231, 216, 209, 220, 222, 27, 30, 46, 86, 205, 164, 113, 153, 172, 249]
def rd1 : List Nat := [25, 239, 0, 162, 44, 12, 174, 186, 71, 4, 88, 74, 127, 17, 37, 124, 110, 106, 19, 44, 226, 245, 18, 86, 94, 205, 3, 254, 156, 235, 103, 85]
def rd2 : List Nat := [79, 138, 132, 187, 24, 192, 188, 176, 200, 111, 35, 115, 179, 123, 252, 173, 33, 69, 153, 138, 19, 239, 240, 12, 222, 137, 131, 83, 124, 70, 128, 26]
def rd3 : List Nat := [242, 253, 175, 213, 110, 4, 112, 42, 14, 132, 126, 125, 4, 63, 105, 63, 137, 132, 112, 177, 3, 195, 167, 43, 250, 121, 193, 164, 16, 218, 20, 66]
def rd4 : List Nat := [220, 194, 78, 75, 148, 177, 166, 211, 154, 192, 235, 99, 6, 145, 66, 198, 20, 7, 199, 101, 242, 165, 227, 74, 125, 50, 55, 27, 244, 188, 77, 158]
def rd5 : List Nat := [224, 140, 102, 57, 29, 138, 0, 136, 57, 138, 9, 80, 221, 188, 21, 83, 220, 37, 251, 255, 222, 77, 145, 237, 152, 188, 175, 208, 218, 166, 131, 35]
def rd6 : List Nat := [171, 41, 97, 128, 56, 191, 27, 76, 135, 61, 79, 43, 218, 129, 23, 239, 131, 11, 154, 186, 123, 52, 168, 157, 92, 208, 131, 20, 221, 200, 2, 182]
def rd7 : List Nat := [161, 139, 172, 96, 181, 146, 222, 124, 240, 218, 152, 141, 3, 150, 246, 28, 40, 37, 16, 10, 74, 165, 10, 21, 14, 162, 213, 79, 3, 114, 6, 190]
def rd8 : List Nat := [50, 144, 104, 165, 232, 128, 45, 255, 172, 234, 206, 52, 44, 79, 63, 187, 189, 36, 154, 37, 48, 174, 143, 96, 88, 13, 211, 147, 239, 73, 51, 205]
def rd9 : List Nat := [200, 58, 224, 59, 246, 176, 91, 181, 231, 71, 168, 191, 237, 241, 224, 196, 236, 209, 149, 35, 123, 74, 126, 74, 62, 74, 85, 138, 74, 178, 184, 119]
def rd10 : List Nat := [203, 225, 59, 251, 99, 112, 64, 203, 8, 117, 54, 253, 66, 105, 185, 141, 16, 3, 194, 39, 23, 88, 29, 160, 133, 207, 219, 99, 194, 206, 30, 236]
def rd11 : List Nat := [16, 10, 32, 3, 66, 159, 156, 181, 148, 117, 216, 109, 123, 236, 58, 90, 17, 11, 40, 210, 71, 163, 178, 100, 100, 182, 188, 151, 196, 126, 59, 239]
def rd12 : List Nat := [140, 40, 206, 227, 231, 74, 243, 254, 34, 35, 161, 184, 138, 69, 12, 218, 61, 72, 59, 196, 17, 255, 48, 64, 153, 147, 157, 47, 175, 8, 243, 13]
def rd13 : List Nat := [163, 51, 108, 154, 145, 72, 165, 60, 54, 108, 8, 190, 146, 251, 240, 79, 95, 35, 97, 71, 154, 95, 36, 109, 143, 63, 127, 228, 33, 244, 49, 186]
def rd14 : List Nat := [219, 253, 121, 90, 114, 203, 1, 120, 192, 3, 32, 22, 37, 200, 27, 90, 114, 50, 45, 36, 125, 164, 164, 254, 145, 58, 141, 12, 150, 214, 170, 33]
def rd15 : List Nat := [84, 249, 136, 209, 37, 104, 173, 203, 38, 61, 115, 193, 75, 162, 131, 132, 72, 145, 91, 136, 113, 109, 187, 75, 118, 106, 34, 75, 52, 93, 217, 34]
def rd16 : List Nat := [20, 73, 153, 86, 233, 54, 200, 240, 135, 61, 7, 183, 141, 95, 132, 96, 207, 134, 57, 108, 234, 115, 154, 208, 32, 229, 153, 198, 182, 24, 59, 102]
end Go.Proofs.YtjgfjmkfcippcaaDoor
namespace Go.Proofs.YtjgfjmkfcippcaaDoor
open Go.RowKit
set_option maxRecDepth 100000

set_option maxHeartbeats 2000000 in
theorem made_yes {w : World} {p m : Nat} (h : w.cell? ⟨p, 0, none⟩ = some (.map (some m))) : Calls Tryd.prog 47 #[.pointer (some ⟨p, 0, none⟩)] w fun e w' => e = .returned (.bool true) ∧ w' = w := by
  have hm : ∀ w : World, (binOp BinOp.neq 39 (.map (some m)) (.map none)).run Tryd.prog w = .ok (.bool true) w := fun w => by kernel_rfl
  go_enter Tryd.func47, Tryd.ntmps47
  go_wp2_with fail
  go_ret
  exact ⟨rfl, rfl⟩
set_option maxHeartbeats 2000000 in
theorem made_none {w : World} : Calls Tryd.prog 47 #[.pointer none] w fun e w' => e = .returned (.bool false) ∧ w' = w := by
  go_enter Tryd.func47, Tryd.ntmps47
  go_wp2_with fail
  go_ret
  exact ⟨rfl, rfl⟩
set_option maxHeartbeats 2000000 in
theorem made_no {w : World} {p : Nat} (h : w.cell? ⟨p, 0, none⟩ = some (.map none)) : Calls Tryd.prog 47 #[.pointer (some ⟨p, 0, none⟩)] w fun e w' => e = .returned (.bool false) ∧ w' = w := by
  have hm : ∀ w : World, (binOp BinOp.neq 39 (.map none) (.map none)).run Tryd.prog w = .ok (.bool false) w := fun w => by kernel_rfl
  go_enter Tryd.func47, Tryd.ntmps47
  go_wp2_with fail
  go_ret
  exact ⟨rfl, rfl⟩

theorem and_one {x : Nat} (hx : x < 9223372036854775808) : bits .and .i64 (x : Int) 1 = ((x % 2 : Nat) : Int) := by
  have h1 : (BitVec.ofInt 64 (x : Int)).toNat = x := by
    rw [BitVec.ofInt_natCast, BitVec.toNat_ofNat]; exact Nat.mod_eq_of_lt (by omega)
  have h2 : (BitVec.ofInt 64 (1 : Int)).toNat = 1 := by decide
  show IntKind.i64.wrap ((BitVec.ofInt 64 (x : Int) &&& BitVec.ofInt 64 (1 : Int)).toNat : Int) = _
  rw [BitVec.toNat_and, h1, h2, Nat.and_one_is_mod]
  exact IntWalk.i64_in _ (by omega)
set_option maxHeartbeats 2000000 in
theorem bit_any {w : World} {K : List Int} {i : Nat} (hK : K.length = 32) (bK : Bytes K) (hi : i < 256) : Calls Tryd.prog 51 #[.agg (hc K).toArray, .int .i64 i] w fun e w' => e = .returned (.int .i64 (bitI K i)) ∧ Below w.heap.size w w' := by
  have H0 := HashAt.new w K
  have B0 := Lib.hid ((Below.refl w.heap.size w).alloc (Nat.le_refl _) (.cells (hc K).toArray 23))
  have hc0 := H0.cell (i := i / 8) (by omega)
  have hb := bK.getD (i / 8)
  obtain ⟨x, hx⟩ : ∃ x : Nat, K.getD (i / 8) 0 = (x : Int) := ⟨(K.getD (i / 8) 0).toNat, by omega⟩
  have hR : Hid (bitI K i = ((x / 2 ^ (7 - i % 8) : Nat) : Int) % 2) := by
    show bitI K i = _
    unfold bitI
    rw [hx, Int.natCast_ediv, Int.natCast_pow]
    rfl
  rw [hx] at hc0 hb
  clear hx bK
  have e1 : ((i : Nat) : Int).tdiv 8 = ((i / 8 : Nat) : Int) := by
    rw [Int.tdiv_eq_ediv_of_nonneg (by omega)]; omega
  have e2 : ((i : Nat) : Int).tmod 8 = ((i % 8 : Nat) : Int) := by
    rw [Int.tmod_eq_emod_of_nonneg (by omega)]; omega
  have hlK := hc_len K
  have hs : x / 2 ^ (7 - i % 8) ≤ x := Nat.div_le_self _ _
  have hd : ((x : Int) / 2 ^ (7 - i % 8)) = ((x / 2 ^ (7 - i % 8) : Nat) : Int) := by rw [Int.natCast_ediv, Int.natCast_pow]; rfl
  generalize x / 2 ^ (7 - i % 8) = y at hs hd hR
  have e3 : wrap64 ((x : Int) / 2 ^ (7 - i % 8)) = (y : Int) := by
    rw [hd]
    unfold wrap64
    omega
  have e4 := and_one (x := y) (by omega)
  clear hd
  go_enter Tryd.func51, Tryd.ntmps51
  go_wp2_with fail
  go_ret
  exact ⟨by rw [hR.out]; rfl, B0.out⟩
end Go.Proofs.YtjgfjmkfcippcaaDoor
namespace Go.Proofs.YtjgfjmkfcippcaaDoor
open Go.RowKit
set_option maxRecDepth 100000

/-- A map of the pair K1, V, whose node is n: what its reckoning may have changed. -/
structure HrS (w W : World) (p m b c : Nat) (n : Nd) (V : List Int) : Prop where
  chg : Chg w W [b]
  cell : W.cell? ⟨p, 0, none⟩ = some (.map (some m))
  mp : W.heap[m]? = some (.map (M1 (.agg (hc V).toArray)) c)
  nd : ∃ F, F.length = 32 ∧ NdB W b { n with own := F }
section
variable {w W W' : World} {p m b c : Nat} {n : Nd} {V : List Int}
theorem HrS.on (h : HrS w W p m b c n V) (hb : Below W.heap.size W W') : HrS w W' p m b c n V := by
  refine ⟨h.chg.trans (T := []) (Chg.below hb (Nat.le_refl _) []) (by simp), ?_, ?_, ?_⟩
  · rw [hb.cell (World.block_lt_of_cell? W _ h.cell)]; exact h.cell
  · rw [hb.block m (Array.getElem?_eq_some_iff.1 h.mp).1]; exact h.mp
  · obtain ⟨F, hF, hN⟩ := h.nd
    exact ⟨F, hF, hN.on hb⟩
theorem HrS.drew (h : HrS w W p m b c n V) : HrS w W.drew p m b c n V := h.on ((Below.refl _ _).drew)
theorem HrS.alloc (h : HrS w W p m b c n V) (o : Obj) : HrS w (W.alloc o) p m b c n V := h.on ((Below.refl _ _).alloc (Nat.le_refl _) o)
theorem HrS.key (h : HrS w W p m b c n V) (ok : n.ok) : rowOf W b 0 32 = hc n.key := by
  obtain ⟨F, hF, hN⟩ := h.nd
  exact (hN.facts ⟨ok.key, hF, ok.high⟩).2.2.2.2.2.2.1
theorem HrS.fork (h : HrS w W p m b c n V) (ok : n.ok) : W.cell? ⟨b, 32, none⟩ = some (.int .i64 n.fork) := by
  obtain ⟨F, hF, hN⟩ := h.nd
  exact (hN.facts ⟨ok.key, hF, ok.high⟩).1
theorem HrS.there (h : HrS w W p m b c n V) (ok : n.ok) {i k : Nat} (hi : i + k ≤ 102) : W.there b i k := by
  obtain ⟨F, hF, hN⟩ := h.nd
  exact hN.there ⟨ok.key, hF, ok.high⟩ hi
theorem HrS.setOwn (h : HrS w W p m b c n V) (ok : n.ok) (hp : p ≠ b) (hm : m ≠ b) {G : List Int} (hG : G.length = 32) : HrS w (W.setCells b 35 (hc G)) p m b c n V ∧ NdB (W.setCells b 35 (hc G)) b { n with own := G } := by
  obtain ⟨F, hF, hN⟩ := h.nd
  have hN2 := hN.setOwn ⟨ok.key, hF, ok.high⟩ hG
  have hcg : Chg W (W.setCells b 35 (hc G)) [b] := by
    have hsz := size_setCells b (hc G) 35 W
    have hbw := below_setCells' (B := b) b (Nat.le_refl _) (hc G) 35 (Below.refl b W)
    exact ⟨hbw.os, hbw.tape, hbw.output, by rw [hsz]; exact Nat.le_refl _, fun k _ hk => setCells_other (fun e => hk (by simp [e])) _ _ _⟩
  refine ⟨⟨h.chg.trans hcg (fun x hx _ => hx), ?_, ?_, G, hG, hN2⟩, hN2⟩
  · rw [World.cell?_of_block (w := W) (setCells_other hp _ _ _)]; exact h.cell
  · rw [setCells_other hm]; exact h.mp
end

theorem Chg.setCells {a w : World} {S : List Nat} (h : Chg a w S) {b : Nat} (hp : b ∈ S ∨ a.heap.size ≤ b) (vs : List Value) (o : Nat) : Chg a (w.setCells b o vs) S := by
  have hbw := below_setCells' (B := b) b (Nat.le_refl _) vs o (Below.refl b w)
  have hsz := size_setCells b vs o w
  refine h.trans (T := [b]) ⟨hbw.os, hbw.tape, hbw.output, by rw [hsz]; exact Nat.le_refl _, fun k _ hk => setCells_other (fun e => hk (by simp [e])) _ _ _⟩ ?_
  intro x hx hl
  obtain rfl := List.mem_singleton.1 hx
  rcases hp with hp | hp
  · exact hp
  · omega

set_option maxHeartbeats 8000000 in
theorem here_leaf {w : World} {p m b c : Nat} {n : Nd} {V : List Int} (hT : Tbl w) (ok : n.ok) (hk : n.key = K1) (bK : Bytes K1) (hV : V.length = 32) (bV : Bytes V) (hf : n.fork = 256) (ht : n.told = false) (hn : NdB w b n) (hp : w.cell? ⟨p, 0, none⟩ = some (.map (some m))) (hm : w.heap[m]? = some (.map (M1 (.agg (hc V).toArray)) c)) (hpb : p ≠ b) (hmb : m ≠ b) (hgb : 1 ∉ [b]) :
    Calls Tryd.prog 80 #[.pointer (some ⟨p, 0, none⟩), .pointer (some ⟨b, 0, none⟩)] w fun e w' => e = .returned (.agg (hc (lfH K1 V)).toArray) ∧ Chg w w' [b] ∧ NdB w' b { n with own := lfH K1 V, told := true } := by
  have hp1 : (w.alloc (.cells (hc zero32).toArray 23)).cell? ⟨p, 0, none⟩ = some (.map (some m)) := by
    rw [World.cell?_of_block (w := w) (Below.heap_alloc _ _ _ (World.block_lt_of_cell? w _ hp))]; exact hp
  have hm1 : (w.alloc (.cells (hc zero32).toArray 23)).heap[m]? = some (.map (M1 (.agg (hc V).toArray)) c) := by
    rw [Below.heap_alloc _ _ _ (Array.getElem?_eq_some_iff.1 hm).1]; exact hm
  have H0 : HrS (w.alloc (.cells (hc zero32).toArray 23)) (w.alloc (.cells (hc zero32).toArray 23)) p m b c n V := ⟨Chg.refl _ _, hp1, hm1, n.own, ok.own, hn.alloc _⟩
  have HH := Lib.hid H0
  have HZ := Lib.hid (HashAt.new w zero32)
  have B0 := Lib.hid ((Below.refl w.heap.size w).alloc (Nat.le_refl _) (.cells (hc zero32).toArray 23))
  have fk := HH.out.fork ok
  rw [hf] at fk
  have tl : (w.alloc (.cells (hc zero32).toArray 23)).cell? ⟨b, 67, none⟩ = some (.bool false) := by
    have h := ((hn.alloc (.cells (hc zero32).toArray 23)).facts ok).2.2.2.1
    rw [ht] at h; exact h
  have HT := Lib.hid (hT.on B0.out hT.pos)
  have OK := Lib.hid ok
  have HK := Lib.hid hk
  have BV := Lib.hid bV
  have BK := Lib.hid bK
  have HV := Lib.hid hV
  have hbw : b < w.heap.size := hn.lt
  clear hT hk bV bK hV hn hp hm H0 hf ht hp1 hm1
  go_enter Tryd.func80, Tryd.ntmps80
  go_wp2_with fail
  generalize w.alloc (.cells (hc zero32).toArray 23) = w1 at *
  refine wp_region_held_drew (S := fun W => HrS w1 W p m b c n V) (by kernel_rfl) (HH.out.drew) (fun h0 => ?_)
  refine wpAnyH_take (i := 0) (v := ?_) (by rw [List.getElem?_toArray]; rfl) (by kernel_rfl) (by kernel_rfl) (by kernel_rfl) (by exact fun _ _ _ h => h) (Or.inl ⟨by rfl, ?_⟩) h0 ?_
  rotate_left
  · intro W hW
    go_simp
    all_goals with_reducible rfl
  try simp only [Act.put, List.setIfInBounds_toArray, List.set_cons_zero, List.set_cons_succ]
  refine wpAnyH_take (i := 1) (v := ?_) (by rw [List.getElem?_toArray]; rfl) (by kernel_rfl) (by kernel_rfl) (by kernel_rfl) (by exact fun _ _ _ h => h) (Or.inl ⟨by rfl, ?_⟩) h0 ?_
  rotate_left
  · intro W hW
    go_simp
    all_goals with_reducible rfl
  try simp only [Act.put, List.setIfInBounds_toArray, List.set_cons_zero, List.set_cons_succ]
  refine wpAnyH_take (i := 2) (v := ?_) (by rw [List.getElem?_toArray]; rfl) (by kernel_rfl) (by kernel_rfl) (by kernel_rfl) (by exact fun _ _ _ h => h) (Or.inl ⟨by rfl, ?_⟩) h0 ?_
  rotate_left
  · intro W hW
    go_simp
    all_goals with_reducible rfl
  try simp only [Act.put, List.setIfInBounds_toArray, List.set_cons_zero, List.set_cons_succ]
  refine wpAnyH_take (i := 3) (v := ?_) (by rw [List.getElem?_toArray]; rfl) (by kernel_rfl) (by kernel_rfl) (by kernel_rfl) (by exact fun _ _ _ h => h) (Or.inl ⟨by rfl, ?_⟩) h0 ?_
  rotate_left
  · intro W hW
    go_simp
    all_goals with_reducible rfl
  try simp only [Act.put, List.setIfInBounds_toArray, List.set_cons_zero, List.set_cons_succ]
  refine wpAnyH_take (i := 4) (v := ?_) (by rw [List.getElem?_toArray]; rfl) (by kernel_rfl) (by kernel_rfl) (by kernel_rfl) (by exact fun _ _ _ h => h) (Or.inl ⟨by rfl, ?_⟩) h0 ?_
  rotate_left
  · intro W hW
    have hky := (hW.key OK.out)
    rw [HK.out] at hky
    have hlk := hc_len K1
    have k32 := K1_len
    go_simp
    all_goals with_reducible rfl
  try simp only [Act.put, List.setIfInBounds_toArray, List.set_cons_zero, List.set_cons_succ]
  refine wpAnyH_take (i := 5) (v := ?_) (by rw [List.getElem?_toArray]; rfl) (by kernel_rfl) (by kernel_rfl) (by kernel_rfl) (by exact fun _ _ _ h => h) (Or.inl ⟨by rfl, ?_⟩) h0 ?_
  rotate_left
  · intro W hW
    go_simp
    all_goals with_reducible rfl
  try simp only [Act.put, List.setIfInBounds_toArray, List.set_cons_zero, List.set_cons_succ]
  refine wpAnyH_take (i := 6) (v := ?_) (by rw [List.getElem?_toArray]; rfl) (by kernel_rfl) (by kernel_rfl) (by kernel_rfl) (by exact fun _ _ _ h => h) (Or.inl ⟨by rfl, ?_⟩) h0 ?_
  rotate_left
  · intro W hW
    go_simp
    all_goals with_reducible rfl
  try simp only [Act.put, List.setIfInBounds_toArray, List.set_cons_zero, List.set_cons_succ]
  refine wpAnyH_take (i := 7) (v := ?_) (by rw [List.getElem?_toArray]; rfl) (by kernel_rfl) (by kernel_rfl) (by kernel_rfl) (by exact fun _ _ _ h => h) (Or.inl ⟨by rfl, ?_⟩) h0 ?_
  rotate_left
  · intro W hW
    go_simp
    all_goals with_reducible rfl
  try simp only [Act.put, List.setIfInBounds_toArray, List.set_cons_zero, List.set_cons_succ]
  refine wpAnyH_take (i := 8) (v := ?_) (by rw [List.getElem?_toArray]; rfl) (by kernel_rfl) (by kernel_rfl) (by kernel_rfl) (by exact fun _ _ _ h => h) (Or.inl ⟨by rfl, ?_⟩) h0 ?_
  rotate_left
  · intro W hW
    have hcl := hW.cell
    go_simp
    all_goals with_reducible rfl
  try simp only [Act.put, List.setIfInBounds_toArray, List.set_cons_zero, List.set_cons_succ]
  refine wpAnyH_take (i := 9) (v := ?_) (by rw [List.getElem?_toArray]; rfl) (by kernel_rfl) (by kernel_rfl) (by kernel_rfl) (by exact fun _ _ _ h => h) (Or.inl ⟨by rfl, ?_⟩) h0 ?_
  rotate_left
  · intro W hW
    go_simp
    all_goals with_reducible rfl
  try simp only [Act.put, List.setIfInBounds_toArray, List.set_cons_zero, List.set_cons_succ]
  refine wpAnyH_take (i := 10) (v := ?_) (by rw [List.getElem?_toArray]; rfl) (by kernel_rfl) (by kernel_rfl) (by kernel_rfl) (by exact fun _ _ _ h => h) (Or.inl ⟨by rfl, ?_⟩) h0 ?_
  rotate_left
  · intro W hW
    go_simp
    all_goals with_reducible rfl
  try simp only [Act.put, List.setIfInBounds_toArray, List.set_cons_zero, List.set_cons_succ]
  refine wpAnyH_take (i := 11) (v := ?_) (by rw [List.getElem?_toArray]; rfl) (by kernel_rfl) (by kernel_rfl) (by kernel_rfl) (by exact fun _ _ _ h => h) (Or.inl ⟨by rfl, ?_⟩) h0 ?_
  rotate_left
  · intro W hW
    go_simp
    all_goals with_reducible rfl
  try simp only [Act.put, List.setIfInBounds_toArray, List.set_cons_zero, List.set_cons_succ]
  refine wpAnyH_take (i := 12) (v := ?_) (by rw [List.getElem?_toArray]; rfl) (by kernel_rfl) (by kernel_rfl) (by kernel_rfl) (by exact fun _ _ _ h => h) (Or.inl ⟨by rfl, ?_⟩) h0 ?_
  rotate_left
  · intro W hW
    have hky := (hW.key OK.out)
    rw [HK.out] at hky
    have hlk := hc_len K1
    have k32 := K1_len
    go_simp
    all_goals with_reducible rfl
  try simp only [Act.put, List.setIfInBounds_toArray, List.set_cons_zero, List.set_cons_succ]
  refine wpAnyH_take (i := 13) (v := ?_) (by rw [List.getElem?_toArray]; rfl) (by kernel_rfl) (by kernel_rfl) (by kernel_rfl) (by exact fun _ _ _ h => h) (Or.inl ⟨by rfl, ?_⟩) h0 ?_
  rotate_left
  · intro W hW
    have hlo := look_m1 false hW.mp
    go_simp
    all_goals with_reducible rfl
  try simp only [Act.put, List.setIfInBounds_toArray, List.set_cons_zero, List.set_cons_succ]
  refine wpAnyH_ready (rs := [14]) (by kernel_rfl) (by simp) ?_
  refine AllReadyH.cons (by rw [List.getElem?_toArray]; rfl) (fun K hK => ?_) AllReadyH.nil
  rw [if_pos (by rfl)]
  go_wp2_with fail
  refine (Leaf_any (HT.out.chg h0.chg hgb) K1_len HV.out BK.out BV.out).mono ?_
  rintro e w3 ⟨rfl, hb3⟩
  have H3 := Lib.hid (h0.on hb3)
  have hlF := lfH_len K1 V
  generalize hF : lfH K1 V = F at *
  go_wp2_with fail
  refine hK.out _ _ (H3.out) (fun h3 => ?_)
  clear hK K
  try simp only [Act.put, List.setIfInBounds_toArray, List.set_cons_zero, List.set_cons_succ]
  refine wpAnyH_take (i := 15) (v := ?_) (by rw [List.getElem?_toArray]; rfl) (by kernel_rfl) (by kernel_rfl) (by kernel_rfl) (by exact fun _ _ _ h => h) (Or.inl ⟨by rfl, ?_⟩) h3 ?_
  rotate_left
  · intro W hW
    go_simp
    all_goals with_reducible rfl
  try simp only [Act.put, List.setIfInBounds_toArray, List.set_cons_zero, List.set_cons_succ]
  refine wpAnyH_take (i := 16) (v := ?_) (by rw [List.getElem?_toArray]; rfl) (by kernel_rfl) (by kernel_rfl) (by kernel_rfl) (by exact fun _ _ _ h => h) (Or.inl ⟨by rfl, ?_⟩) h3 ?_
  rotate_left
  · intro W hW
    go_simp
    all_goals with_reducible rfl
  try simp only [Act.put, List.setIfInBounds_toArray, List.set_cons_zero, List.set_cons_succ]
  refine wpAnyH_ready (rs := [17]) (by kernel_rfl) (by simp) ?_
  refine AllReadyH.cons (by rw [List.getElem?_toArray]; rfl) (fun K hK => ?_) AllReadyH.nil
  rw [if_pos (by rfl)]
  have hth3 := h3.there OK.out (i := 35) (k := 32) (by omega)
  obtain ⟨H5, N5⟩ := h3.setOwn OK.out hpb hmb hlF
  have H5 := Lib.hid H5
  have N5 := Lib.hid N5
  go_wp2_with fail
  refine hK.out _ _ (H5.out) (fun h5 => ?_)
  clear hK K
  try simp only [Act.put, List.setIfInBounds_toArray, List.set_cons_zero, List.set_cons_succ]
  refine wpAnyH_done (by kernel_rfl) ?_ _
  have Z5 := Lib.hid (HZ.out.chg H5.out.chg (by simp; omega))
  have C5 := Lib.hid ((Chg.below B0.out (Nat.le_refl _) [b]).trans H5.out.chg (fun x hx _ => hx))
  have ok5 : Nd.ok { n with own := F } := ⟨OK.out.key, hlF, OK.out.high⟩
  have t5 := (N5.out.facts ok5).2.2.2.1
  have u5 := N5.out.free 67
  have N6 := Lib.hid (N5.out.setTold ok5 true)
  have C6 := Lib.hid (C5.out.setCell (p := ⟨b, 67, none⟩) (.inl (by simp)) (.bool true))
  have Z6 := Lib.hid (Z5.out.other (a := ⟨b, 67, none⟩) (by simp; omega) (.bool true))
  have ok6 : Nd.ok { n with own := F, told := true } := ⟨OK.out.key, hlF, OK.out.high⟩
  have r6 := (N6.out.facts ok6).2.2.2.2.2.2.2.1
  have z6 := Z6.out.there zero32_len
  have hput := (Z6.out.put zero32_len hlF).row hlF
  have C7 := Lib.hid (C6.out.setCells (b := w.heap.size) (.inr (Nat.le_refl _)) (hc F) 0)
  have N7 : Hid (NdB (((w3.setCells b 35 (hc F)).setCell ⟨b, 67, none⟩ (.bool true)).setCells w.heap.size 0 (hc F)) b { n with own := F, told := true }) := by
    show _ = _
    rw [setCells_other (by omega)]
    exact N6.out
  have hcF := hc_len F
  clear hb3 H3 HH HT B0 HZ h0 h3 h5 ok5 ok6 Z5 C5 N5 H5 Z6 C6 N6
  go_wp2_with fail
  refine bodyPost_ret (v := .agg (hc F).toArray) (by simp [results, Tryd.results80, go_sem, hput, hlF]) rfl ⟨rfl, C7.out, N7.out⟩
end Go.Proofs.YtjgfjmkfcippcaaDoor
