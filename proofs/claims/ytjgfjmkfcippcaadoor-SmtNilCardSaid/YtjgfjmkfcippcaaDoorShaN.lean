/-
  SHA-256 over naturals, quick for the kernel, and that it is the digest.
-/
import Derived.Test.YtjgfjmkfcippcaaDoorShaPad
namespace Go.Proofs.YtjgfjmkfcippcaaDoor
open Go.RowKit
set_option maxRecDepth 100000

/-! ### The numbers -/
theorem wrap_u32n (n : Int) : IntKind.u32.wrap n = n % 4294967296 := by simp [IntKind.wrap, IntKind.bits, IntKind.signed]
theorem bv32 (a : Nat) (ha : a < 4294967296) : (BitVec.ofInt 32 (a : Int)).toNat = a := by
  rw [BitVec.ofInt_natCast, BitVec.toNat_ofNat]; exact Nat.mod_eq_of_lt (by omega)
theorem xorN (a b : Nat) (ha : a < 4294967296) (hb : b < 4294967296) : bits .xor .u32 (a : Int) (b : Int) = ((Nat.xor a b : Nat) : Int) ∧ Nat.xor a b < 4294967296 := by
  have hx : a ^^^ b < 2 ^ 32 := Nat.xor_lt_two_pow (by omega) (by omega)
  refine ⟨?_, by exact hx⟩
  show IntKind.u32.wrap ((BitVec.ofInt 32 (a : Int) ^^^ BitVec.ofInt 32 (b : Int)).toNat : Int) = ((a ^^^ b : Nat) : Int)
  rw [BitVec.toNat_xor, bv32 a ha, bv32 b hb, wrap_u32n]
  omega
theorem orN (a b : Nat) (ha : a < 4294967296) (hb : b < 4294967296) : bits .or .u32 (a : Int) (b : Int) = ((Nat.lor a b : Nat) : Int) ∧ Nat.lor a b < 4294967296 := by
  have hx : a ||| b < 2 ^ 32 := Nat.or_lt_two_pow (by omega) (by omega)
  refine ⟨?_, by exact hx⟩
  show IntKind.u32.wrap ((BitVec.ofInt 32 (a : Int) ||| BitVec.ofInt 32 (b : Int)).toNat : Int) = ((a ||| b : Nat) : Int)
  rw [BitVec.toNat_or, bv32 a ha, bv32 b hb, wrap_u32n]
  omega
theorem andN (a b : Nat) (ha : a < 4294967296) (hb : b < 4294967296) : bits .and .u32 (a : Int) (b : Int) = ((Nat.land a b : Nat) : Int) ∧ Nat.land a b < 4294967296 := by
  have hx : a &&& b < 2 ^ 32 := Nat.and_lt_two_pow _ (by omega)
  refine ⟨?_, by exact hx⟩
  show IntKind.u32.wrap ((BitVec.ofInt 32 (a : Int) &&& BitVec.ofInt 32 (b : Int)).toNat : Int) = ((a &&& b : Nat) : Int)
  rw [BitVec.toNat_and, bv32 a ha, bv32 b hb, wrap_u32n]
  omega
def rotN (c d x : Nat) : Nat := Nat.lor (Nat.mod (Nat.mul x c) 4294967296) (Nat.div x d)
theorem rk_N {k : Int} {s : Nat} (c d : Nat) (hs : rsh k = s) (hc : 2 ^ s = c) (hd : 2 ^ (32 - s) = d) (x : Nat) (hx : x < 4294967296) : rk k (x : Int) = ((rotN c d x : Nat) : Int) ∧ rotN c d x < 4294967296 := by
  have h1 : Nat.mod (Nat.mul x c) 4294967296 < 4294967296 := Nat.mod_lt _ (by decide)
  have h2 : Nat.div x d < 4294967296 := Nat.lt_of_le_of_lt (Nat.div_le_self x d) hx
  have h := orN _ _ h1 h2
  refine ⟨?_, h.2⟩
  have e1 : ((x : Int) * 2 ^ s % 4294967296) = ((Nat.mod (Nat.mul x c) 4294967296 : Nat) : Int) := by
    show _ = ((x * c % 4294967296 : Nat) : Int)
    subst hc
    rw [Int.natCast_emod, Int.natCast_mul, Int.natCast_pow]
    rfl
  have e2 : ((x : Int) / 2 ^ (32 - s)) = ((Nat.div x d : Nat) : Int) := by
    show _ = ((x / d : Nat) : Int)
    subst hd
    rw [Int.natCast_ediv, Int.natCast_pow]
    rfl
  unfold rk
  rw [hs, e1, e2]
  exact h.1
def wdN (a b c d : Nat) : Nat := Nat.lor (Nat.lor (Nat.lor (Nat.mul a 16777216) (Nat.mul b 65536)) (Nat.mul c 256)) d
theorem wd_N {B : Nat → Int} {i : Nat} {a b c d : Nat} (ha : a < 256) (hb : b < 256) (hc : c < 256) (hd : d < 256) (h0 : B (4 * i) = a) (h1 : B (4 * i + 1) = b) (h2 : B (4 * i + 2) = c) (h3 : B (4 * i + 3) = d) : wd B i = ((wdN a b c d : Nat) : Int) ∧ wdN a b c d < 4294967296 := by
  have e1 := orN (a * 16777216) (b * 65536) (by omega) (by omega)
  have e2 := orN _ (c * 256) e1.2 (by omega)
  have e3 := orN _ d e2.2 (by omega)
  refine ⟨?_, e3.2⟩
  unfold wd
  rw [h0, h1, h2, h3]
  rw [show ((a : Int) * 16777216) = ((a * 16777216 : Nat) : Int) by omega, show ((b : Int) * 65536) = ((b * 65536 : Nat) : Int) by omega, show ((c : Int) * 256) = ((c * 256 : Nat) : Int) by omega]
  rw [e1.1, e2.1, e3.1]
  rfl
def sg0N (x : Nat) : Nat := Nat.xor (Nat.xor (rotN 33554432 128 x) (rotN 16384 262144 x)) (Nat.div x 8)
def sg1N (x : Nat) : Nat := Nat.xor (Nat.xor (rotN 32768 131072 x) (rotN 8192 524288 x)) (Nat.div x 1024)
def faN (x : Nat) : Nat := Nat.xor (Nat.xor (rotN 1073741824 4 x) (rotN 524288 8192 x)) (rotN 1024 4194304 x)
def feN (x : Nat) : Nat := Nat.xor (Nat.xor (rotN 67108864 64 x) (rotN 2097152 2048 x)) (rotN 128 33554432 x)
def fchN (e f g : Nat) : Nat := Nat.xor (Nat.land e f) (Nat.land (Nat.xor 4294967295 e) g)
def fmjN (a b c : Nat) : Nat := Nat.xor (Nat.xor (Nat.land a b) (Nat.land a c)) (Nat.land b c)
theorem sg0_N (x : Nat) (hx : x < 4294967296) : sg0 x = ((sg0N x : Nat) : Int) ∧ sg0N x < 4294967296 := by
  have h1 := rk_N (k := -7) (s := 25) 33554432 128 (by decide) (by decide) (by decide) x hx
  have h2 := rk_N (k := -18) (s := 14) 16384 262144 (by decide) (by decide) (by decide) x hx
  have h3 : x / 8 < 4294967296 := by omega
  have e1 := xorN _ _ h1.2 h2.2
  have e2 := xorN _ _ e1.2 h3
  refine ⟨?_, e2.2⟩
  unfold sg0
  rw [h1.1, h2.1, e1.1, show ((x : Int) / 8) = ((x / 8 : Nat) : Int) by omega, e2.1]
  rfl
theorem sg1_N (x : Nat) (hx : x < 4294967296) : sg1 x = ((sg1N x : Nat) : Int) ∧ sg1N x < 4294967296 := by
  have h1 := rk_N (k := -17) (s := 15) 32768 131072 (by decide) (by decide) (by decide) x hx
  have h2 := rk_N (k := -19) (s := 13) 8192 524288 (by decide) (by decide) (by decide) x hx
  have h3 : x / 1024 < 4294967296 := by omega
  have e1 := xorN _ _ h1.2 h2.2
  have e2 := xorN _ _ e1.2 h3
  refine ⟨?_, e2.2⟩
  unfold sg1
  rw [h1.1, h2.1, e1.1, show ((x : Int) / 1024) = ((x / 1024 : Nat) : Int) by omega, e2.1]
  rfl
theorem fa_N (x : Nat) (hx : x < 4294967296) : fa x = ((faN x : Nat) : Int) ∧ faN x < 4294967296 := by
  have h1 := rk_N (k := -2) (s := 30) 1073741824 4 (by decide) (by decide) (by decide) x hx
  have h2 := rk_N (k := -13) (s := 19) 524288 8192 (by decide) (by decide) (by decide) x hx
  have h3 := rk_N (k := -22) (s := 10) 1024 4194304 (by decide) (by decide) (by decide) x hx
  have e1 := xorN _ _ h1.2 h2.2
  have e2 := xorN _ _ e1.2 h3.2
  refine ⟨?_, e2.2⟩
  unfold fa
  rw [h1.1, h2.1, e1.1, h3.1, e2.1]
  rfl
theorem fe_N (x : Nat) (hx : x < 4294967296) : fe x = ((feN x : Nat) : Int) ∧ feN x < 4294967296 := by
  have h1 := rk_N (k := -6) (s := 26) 67108864 64 (by decide) (by decide) (by decide) x hx
  have h2 := rk_N (k := -11) (s := 21) 2097152 2048 (by decide) (by decide) (by decide) x hx
  have h3 := rk_N (k := -25) (s := 7) 128 33554432 (by decide) (by decide) (by decide) x hx
  have e1 := xorN _ _ h1.2 h2.2
  have e2 := xorN _ _ e1.2 h3.2
  refine ⟨?_, e2.2⟩
  unfold fe
  rw [h1.1, h2.1, e1.1, h3.1, e2.1]
  rfl
theorem fch_N (e f g : Nat) (he : e < 4294967296) (hf : f < 4294967296) (hg : g < 4294967296) : fch e f g = ((fchN e f g : Nat) : Int) ∧ fchN e f g < 4294967296 := by
  have h1 := andN e f he hf
  have h2 := xorN 4294967295 e (by decide) he
  have h3 := andN _ g h2.2 hg
  have h4 := xorN _ _ h1.2 h3.2
  refine ⟨?_, h4.2⟩
  unfold fch notI
  rw [show (if IntKind.u32.signed = true then -1 else IntKind.u32.max) = ((4294967295 : Nat) : Int) by decide, h1.1, h2.1, h3.1, h4.1]
  rfl
theorem fmj_N (a b c : Nat) (ha : a < 4294967296) (hb : b < 4294967296) (hc : c < 4294967296) : fmj a b c = ((fmjN a b c : Nat) : Int) ∧ fmjN a b c < 4294967296 := by
  have h1 := andN a b ha hb
  have h2 := andN a c ha hc
  have h3 := andN b c hb hc
  have h4 := xorN _ _ h1.2 h2.2
  have h5 := xorN _ _ h4.2 h3.2
  refine ⟨?_, h5.2⟩
  unfold fmj
  rw [h1.1, h2.1, h4.1, h3.1, h5.1]
  rfl
def pN (x y : Nat) : Nat := Nat.mod (Nat.add x y) 4294967296
theorem p_N (x y : Nat) : p32 x y = ((pN x y : Nat) : Int) ∧ pN x y < 4294967296 := by
  refine ⟨?_, Nat.mod_lt _ (by decide)⟩
  show _ = (((x + y) % 4294967296 : Nat) : Int)
  unfold p32
  omega

/-! ### The state -/
structure SN where
  a : Nat
  b : Nat
  c : Nat
  d : Nat
  e : Nat
  f : Nat
  g : Nat
  h : Nat
def SN.to (s : SN) : St8 := ⟨s.a, s.b, s.c, s.d, s.e, s.f, s.g, s.h⟩
structure SN.Ok (s : SN) : Prop where
  a : s.a < 4294967296
  b : s.b < 4294967296
  c : s.c < 4294967296
  d : s.d < 4294967296
  e : s.e < 4294967296
  f : s.f < 4294967296
  g : s.g < 4294967296
  h : s.h < 4294967296
def SN.u1 (s : SN) (k w : Nat) : Nat := Nat.mod (Nat.add (Nat.add (Nat.add (Nat.add s.h (feN s.e)) (fchN s.e s.f s.g)) k) w) 4294967296
def SN.u2 (s : SN) : Nat := Nat.mod (Nat.add (faN s.a) (fmjN s.a s.b s.c)) 4294967296
def SN.rnd (s : SN) (k w : Nat) : SN := ⟨pN (s.u1 k w) s.u2, s.a, s.b, s.c, pN s.d (s.u1 k w), s.e, s.f, s.g⟩
theorem SN.rnd_to {s : SN} (h : s.Ok) (k w : Nat) : s.to.rnd k w = (s.rnd k w).to ∧ (s.rnd k w).Ok := by
  have e1 := fe_N s.e h.e
  have e2 := fch_N s.e s.f s.g h.e h.f h.g
  have e3 := fa_N s.a h.a
  have e4 := fmj_N s.a s.b s.c h.a h.b h.c
  have u1 : s.to.u1 k w % 4294967296 = ((s.u1 k w : Nat) : Int) := by
    show (((s.h : Int) + fe s.e + fch s.e s.f s.g + k + w) % 4294967296) = (((s.h + feN s.e + fchN s.e s.f s.g + k + w) % 4294967296 : Nat) : Int)
    rw [e1.1, e2.1]
    omega
  have u2 : s.to.u2 % 4294967296 = ((s.u2 : Nat) : Int) := by
    show ((fa s.a + fmj s.a s.b s.c) % 4294967296) = (((faN s.a + fmjN s.a s.b s.c) % 4294967296 : Nat) : Int)
    rw [e3.1, e4.1]
    omega
  refine ⟨?_, (p_N _ _).2, h.a, h.b, h.c, (p_N _ _).2, h.e, h.f, h.g⟩
  unfold St8.rnd
  rw [u1, u2]
  show (⟨p32 (s.u1 k w : Nat) (s.u2 : Nat), s.a, s.b, s.c, p32 (s.d : Nat) (s.u1 k w : Nat), s.e, s.f, s.g⟩ : St8) = _
  rw [(p_N _ _).1, (p_N _ _).1]
  rfl
def SN.run (s : SN) : List Nat → List Nat → SN
  | k :: ks, w :: ws => (s.rnd k w).run ks ws
  | _, _ => s
theorem SN.run_snoc (k w : Nat) : ∀ (ks ws : List Nat) (s : SN), ks.length = ws.length → s.run (ks ++ [k]) (ws ++ [w]) = (s.run ks ws).rnd k w
  | [], [], s, _ => rfl
  | _ :: ks, _ :: ws, s, h => SN.run_snoc k w ks ws _ (by simpa using h)
  | [], _ :: _, _, h => by simp at h
  | _ :: _, [], _, h => by simp at h
def SN.add (s t : SN) : SN := ⟨pN s.a t.a, pN s.b t.b, pN s.c t.c, pN s.d t.d, pN s.e t.e, pN s.f t.f, pN s.g t.g, pN s.h t.h⟩
def nxtN (l : List Nat) : Nat := Nat.mod (Nat.add (Nat.add (Nat.add (l.getD 15 0) (sg0N (l.getD 14 0))) (l.getD 6 0)) (sg1N (l.getD 1 0))) 4294967296
theorem nxtN_lt (l : List Nat) : nxtN l < 4294967296 := Nat.mod_lt _ (by decide)
theorem nxtN_eq (l : List Nat) : nxtN l = (l.getD 15 0 + sg0N (l.getD 14 0) + l.getD 6 0 + sg1N (l.getD 1 0)) % 4294967296 := rfl
def growN : Nat → List Nat → List Nat
  | 0, l => l
  | n + 1, l => growN n (nxtN l :: l)
def rootsN : List Nat := [1116352408, 1899447441, 3049323471, 3921009573, 961987163, 1508970993, 2453635748, 2870763221, 3624381080, 310598401, 607225278, 1426881987, 1925078388, 2162078206, 2614888103, 3248222580, 3835390401, 4022224774, 264347078, 604807628, 770255983, 1249150122, 1555081692, 1996064986, 2554220882, 2821834349, 2952996808, 3210313671, 3336571891, 3584528711, 113926993, 338241895, 666307205, 773529912, 1294757372, 1396182291, 1695183700, 1986661051, 2177026350, 2456956037, 2730485921, 2820302411, 3259730800, 3345764771, 3516065817, 3600352804, 4094571909, 275423344, 430227734, 506948616, 659060556, 883997877, 958139571, 1322822218, 1537002063, 1747873779, 1955562222, 2024104815, 2227730452, 2361852424, 2428436474, 2756734187, 3204031479, 3329325298]
def SN.mix (s : SN) (ws : List Nat) : SN := s.add (s.run rootsN (growN 48 ws.reverse).reverse)
theorem rt_N {i : Nat} (hi : i < 64) : rt i = ((rootsN.getD i 0 : Nat) : Int) := by
  have e : rootsZ = rootsN.map (fun n : Nat => (n : Int)) := by rfl
  have hl : i < rootsN.length := hi
  unfold rt
  rw [e]
  simp [List.getD, hl]
/-- A row of words, the newest first. -/
def Sch (B : Nat → Int) (l : List Nat) : Prop := ∀ j, j < l.length → W B j = ((l.getD (l.length - 1 - j) 0 : Nat) : Int) ∧ l.getD (l.length - 1 - j) 0 < 4294967296
theorem Sch.grow {B : Nat → Int} {l : List Nat} (h : Sch B l) (h16 : 16 ≤ l.length) : Sch B (nxtN l :: l) := by
  intro j hj
  simp only [List.length_cons] at hj ⊢
  by_cases e : j = l.length
  · subst e
    have a := h (l.length - 16) (by omega)
    have b := h (l.length - 15) (by omega)
    have c := h (l.length - 7) (by omega)
    have d := h (l.length - 2) (by omega)
    rw [show l.length - 1 - (l.length - 16) = 15 by omega] at a
    rw [show l.length - 1 - (l.length - 15) = 14 by omega] at b
    rw [show l.length - 1 - (l.length - 7) = 6 by omega] at c
    rw [show l.length - 1 - (l.length - 2) = 1 by omega] at d
    rw [show l.length + 1 - 1 - l.length = 0 by omega, List.getD_cons_zero]
    refine ⟨?_, nxtN_lt l⟩
    rw [W_high B h16]
    unfold nxt
    rw [a.1, b.1, c.1, d.1, (sg0_N _ b.2).1, (sg1_N _ d.2).1, nxtN_eq]
    generalize l.getD 15 0 = x1
    generalize sg0N (l.getD 14 0) = x2
    generalize l.getD 6 0 = x3
    generalize sg1N (l.getD 1 0) = x4
    omega
  · have a := h j (by omega)
    rw [show l.length + 1 - 1 - j = (l.length - 1 - j) + 1 by omega, List.getD_cons_succ]
    exact a
theorem growN_len : ∀ n (l : List Nat), (growN n l).length = n + l.length
  | 0, l => by simp [growN]
  | n + 1, l => by rw [growN, growN_len n]; simp; omega
theorem Sch.grows {B : Nat → Int} : ∀ n {l : List Nat}, Sch B l → 16 ≤ l.length → Sch B (growN n l)
  | 0, _, h, _ => h
  | n + 1, _, h, h16 => Sch.grows n (h.grow h16) (by simp; omega)
theorem getD_reverse {l : List Nat} {j : Nat} (hj : j < l.length) : l.reverse.getD j 0 = l.getD (l.length - 1 - j) 0 := by
  simp only [List.getD_eq_getElem?_getD]
  rw [List.getElem?_reverse hj]
theorem SN.rounds_to {B : Nat → Int} {ws : List Nat} (hl : ws.length = 64) (hw : ∀ j, j < 64 → W B j = ((ws.getD j 0 : Nat) : Int)) {s : SN} (h : s.Ok) : ∀ n, n ≤ 64 → s.to.rounds B n = (s.run (rootsN.take n) (ws.take n)).to ∧ (s.run (rootsN.take n) (ws.take n)).Ok
  | 0, _ => by
    have e : s.run (rootsN.take 0) (ws.take 0) = s := by simp [SN.run]
    rw [e]; exact ⟨rfl, h⟩
  | n + 1, hn => by
    obtain ⟨h1, h2⟩ := SN.rounds_to hl hw h n (by omega)
    have e1 : rootsN.take (n + 1) = rootsN.take n ++ [rootsN.getD n 0] := by
      have hn' : n < rootsN.length := by show n < 64; omega
      rw [List.take_succ_eq_append_getElem hn']; simp [List.getD, hn']
    have e2 : ws.take (n + 1) = ws.take n ++ [ws.getD n 0] := by
      have hn' : n < ws.length := by omega
      rw [List.take_succ_eq_append_getElem hn']; simp [List.getD, hn']
    rw [e1, e2, SN.run_snoc _ _ _ _ _ (by have : rootsN.length = 64 := rfl; simp [hl, this]; try omega)]
    have h3 := SN.rnd_to h2 (rootsN.getD n 0) (ws.getD n 0)
    refine ⟨?_, h3.2⟩
    rw [← h3.1, St8.rounds, h1, rt_N (by omega), hw n (by omega)]
theorem SN.add_to (s t : SN) : s.to.add t.to = (s.add t).to ∧ (s.add t).Ok := by
  refine ⟨?_, (p_N _ _).2, (p_N _ _).2, (p_N _ _).2, (p_N _ _).2, (p_N _ _).2, (p_N _ _).2, (p_N _ _).2, (p_N _ _).2⟩
  show (⟨p32 (s.a : Nat) (t.a : Nat), p32 (s.b : Nat) (t.b : Nat), p32 (s.c : Nat) (t.c : Nat), p32 (s.d : Nat) (t.d : Nat), p32 (s.e : Nat) (t.e : Nat), p32 (s.f : Nat) (t.f : Nat), p32 (s.g : Nat) (t.g : Nat), p32 (s.h : Nat) (t.h : Nat)⟩ : St8) = _
  simp only [(p_N _ _).1]
  rfl
theorem SN.mix_to {B : Nat → Int} {ws : List Nat} (hl : ws.length = 16) (hw : ∀ j, j < 16 → wd B j = ((ws.getD j 0 : Nat) : Int) ∧ ws.getD j 0 < 4294967296) {s : SN} (h : s.Ok) : s.to.mix B = (s.mix ws).to ∧ (s.mix ws).Ok := by
  have h0 : Sch B ws.reverse := by
    intro j hj
    simp only [List.length_reverse] at hj ⊢
    have : ws.reverse.getD (ws.length - 1 - j) 0 = ws.getD j 0 := by
      rw [getD_reverse (by omega)]; congr 1; omega
    rw [this, W_low B (by omega)]
    exact hw j (by omega)
  have h1 := h0.grows 48 (by simp [hl])
  have hlen : (growN 48 ws.reverse).length = 64 := by rw [growN_len]; simp [hl]
  have h2 := SN.rounds_to (B := B) (ws := (growN 48 ws.reverse).reverse) (by simp [hlen]) (fun j hj => by rw [getD_reverse (by omega)]; exact (h1 j (by omega)).1) h 64 (by omega)
  rw [List.take_of_length_le (by show 64 ≤ 64; omega), List.take_of_length_le (by simp [hlen])] at h2
  unfold St8.mix
  rw [h2.1]
  exact SN.add_to _ _

/-! ### The digest -/
def wordsN : List Nat → List Nat
  | a :: b :: c :: d :: r => wdN a b c d :: wordsN r
  | _ => []
def ivN : SN := ⟨1779033703, 3144134277, 1013904242, 2773480762, 1359893119, 2600822924, 528734635, 1541459225⟩
theorem ivN_ok : ivN.Ok := by constructor <;> (simp only [ivN]; omega)
theorem ivN_to : ivN.to = iv := by simp only [ivN, SN.to, iv]; congr 1
def be4N (n : Nat) : List Nat := [Nat.mod (Nat.div n 16777216) 256, Nat.mod (Nat.div n 65536) 256, Nat.mod (Nat.div n 256) 256, Nat.mod n 256]
def be8N (n : Nat) : List Nat := [Nat.mod (Nat.div n 72057594037927936) 256, Nat.mod (Nat.div n 281474976710656) 256, Nat.mod (Nat.div n 1099511627776) 256, Nat.mod (Nat.div n 4294967296) 256, Nat.mod (Nat.div n 16777216) 256, Nat.mod (Nat.div n 65536) 256, Nat.mod (Nat.div n 256) 256, Nat.mod n 256]
def SN.out (s : SN) : List Nat := be4N s.a ++ be4N s.b ++ be4N s.c ++ be4N s.d ++ be4N s.e ++ be4N s.f ++ be4N s.g ++ be4N s.h
def castL (l : List Nat) : List Int := l.map fun n : Nat => (n : Int)
theorem castL_app (l m : List Nat) : castL (l ++ m) = castL l ++ castL m := List.map_append
theorem castL_len (l : List Nat) : (castL l).length = l.length := List.length_map _
theorem castL_get (l : List Nat) (j : Nat) : (castL l).getD j 0 = ((l.getD j 0 : Nat) : Int) := by
  by_cases h : j < l.length
  · simp [castL, List.getD, h]
  · simp [castL, List.getD, h]
theorem be4_N (n : Nat) : be4 n = castL (be4N n) := by
  have e0 : ((Nat.mod (Nat.div n 16777216) 256 : Nat) : Int) = (n : Int) / 16777216 % 256 := by
    show ((n / 16777216 % 256 : Nat) : Int) = _
    omega
  have e1 : ((Nat.mod (Nat.div n 65536) 256 : Nat) : Int) = (n : Int) / 65536 % 256 := by
    show ((n / 65536 % 256 : Nat) : Int) = _
    omega
  have e2 : ((Nat.mod (Nat.div n 256) 256 : Nat) : Int) = (n : Int) / 256 % 256 := by
    show ((n / 256 % 256 : Nat) : Int) = _
    omega
  have e3 : ((Nat.mod n 256 : Nat) : Int) = (n : Int) % 256 := by
    show ((n % 256 : Nat) : Int) = _
    omega
  simp only [be4, be4N, castL, List.map_cons, List.map_nil, e0, e1, e2, e3]
theorem be8_N (n : Nat) : be8 n = castL (be8N n) := by
  have e0 : ((Nat.mod (Nat.div n 72057594037927936) 256 : Nat) : Int) = (n : Int) / 72057594037927936 % 256 := by
    show ((n / 72057594037927936 % 256 : Nat) : Int) = _
    omega
  have e1 : ((Nat.mod (Nat.div n 281474976710656) 256 : Nat) : Int) = (n : Int) / 281474976710656 % 256 := by
    show ((n / 281474976710656 % 256 : Nat) : Int) = _
    omega
  have e2 : ((Nat.mod (Nat.div n 1099511627776) 256 : Nat) : Int) = (n : Int) / 1099511627776 % 256 := by
    show ((n / 1099511627776 % 256 : Nat) : Int) = _
    omega
  have e3 : ((Nat.mod (Nat.div n 4294967296) 256 : Nat) : Int) = (n : Int) / 4294967296 % 256 := by
    show ((n / 4294967296 % 256 : Nat) : Int) = _
    omega
  have e4 : ((Nat.mod (Nat.div n 16777216) 256 : Nat) : Int) = (n : Int) / 16777216 % 256 := by
    show ((n / 16777216 % 256 : Nat) : Int) = _
    omega
  have e5 : ((Nat.mod (Nat.div n 65536) 256 : Nat) : Int) = (n : Int) / 65536 % 256 := by
    show ((n / 65536 % 256 : Nat) : Int) = _
    omega
  have e6 : ((Nat.mod (Nat.div n 256) 256 : Nat) : Int) = (n : Int) / 256 % 256 := by
    show ((n / 256 % 256 : Nat) : Int) = _
    omega
  have e7 : ((Nat.mod n 256 : Nat) : Int) = (n : Int) % 256 := by
    show ((n % 256 : Nat) : Int) = _
    omega
  simp only [be8, be8N, castL, List.map_cons, List.map_nil, e0, e1, e2, e3, e4, e5, e6, e7]
theorem SN.out_to (s : SN) : s.to.out = castL s.out := by
  unfold SN.out
  simp only [castL_app, ← be4_N]
  rfl
def ByN (l : List Nat) : Prop := ∀ x ∈ l, x < 256
theorem ByN.get {l : List Nat} (h : ByN l) (j : Nat) : l.getD j 0 < 256 := by
  by_cases hj : j < l.length
  · have : l.getD j 0 = l[j] := by simp [List.getD, hj]
    rw [this]; exact h _ (List.getElem_mem hj)
  · have : l.getD j 0 = 0 := by simp [List.getD, hj]
    rw [this]; omega
theorem wordsN_cons (a b c d : Nat) (r : List Nat) : wordsN (a :: b :: c :: d :: r) = wdN a b c d :: wordsN r := by rw [wordsN]
theorem wordsN_get : ∀ (n : Nat) (l : List Nat), l.length = 4 * n → ∀ i, i < n → (wordsN l).getD i 0 = wdN (l.getD (4 * i) 0) (l.getD (4 * i + 1) 0) (l.getD (4 * i + 2) 0) (l.getD (4 * i + 3) 0)
  | 0, _, _, i, hi => by omega
  | n + 1, l, hl, i, hi => by
    obtain ⟨a, b, c, d, r, rfl⟩ : ∃ a b c d r, l = a :: b :: c :: d :: r := by
      match l, hl with
      | a :: b :: c :: d :: r, _ => exact ⟨a, b, c, d, r, rfl⟩
      | [], h => simp at h
      | [_], h => simp at h; omega
      | [_, _], h => simp at h; omega
      | [_, _, _], h => simp at h; omega
    rw [wordsN_cons]
    rcases i with _ | i
    · simp only [List.getD_cons_zero, Nat.mul_zero, Nat.zero_add]
      rw [show (3 : Nat) = 0 + 1 + 1 + 1 by omega, show (2 : Nat) = 0 + 1 + 1 by omega, show (1 : Nat) = 0 + 1 by omega]
      simp only [List.getD_cons_succ, List.getD_cons_zero]
    · have h := wordsN_get n r (by simp at hl; omega) i (by omega)
      rw [show 4 * (i + 1) + 3 = (4 * i + 3) + 1 + 1 + 1 + 1 by omega, show 4 * (i + 1) + 2 = (4 * i + 2) + 1 + 1 + 1 + 1 by omega, show 4 * (i + 1) + 1 = (4 * i + 1) + 1 + 1 + 1 + 1 by omega, show 4 * (i + 1) = 4 * i + 1 + 1 + 1 + 1 by omega]
      simp only [List.getD_cons_succ]
      exact h
theorem wordsN_len : ∀ (n : Nat) (l : List Nat), l.length = 4 * n → (wordsN l).length = n
  | 0, l, h => by
    obtain rfl : l = [] := List.length_eq_zero_iff.1 (by omega)
    simp [wordsN]
  | n + 1, l, hl => by
    obtain ⟨a, b, c, d, r, rfl⟩ : ∃ a b c d r, l = a :: b :: c :: d :: r := by
      match l, hl with
      | a :: b :: c :: d :: r, _ => exact ⟨a, b, c, d, r, rfl⟩
      | [], h => simp at h
      | [_], h => simp at h; omega
      | [_, _], h => simp at h; omega
      | [_, _, _], h => simp at h; omega
    rw [wordsN_cons, List.length_cons, wordsN_len n r (by simp at hl; omega)]
def padN (xs : List Nat) : List Nat := xs ++ (128 :: (List.replicate (64 * nbk xs.length - xs.length - 9) 0 ++ be8N (8 * xs.length)))
theorem nbk_fits (n : Nat) : n + 9 ≤ 64 * nbk n := by unfold nbk; split <;> omega
theorem padN_len (xs : List Nat) : (padN xs).length = 64 * nbk xs.length := by
  have := nbk_fits xs.length
  simp [padN, be8N]; omega
theorem padN_get (xs : List Nat) {j : Nat} (hj : j < 64 * nbk xs.length) : padF (castL xs) j = (((padN xs).getD j 0 : Nat) : Int) := by
  have hf := nbk_fits xs.length
  unfold padF
  rw [castL_len, castL_get]
  simp only [padN, List.getD_eq_getElem?_getD]
  by_cases h1 : j < xs.length
  · rw [if_pos h1, List.getElem?_append_left h1]
  · rw [if_neg h1, List.getElem?_append_right (by omega)]
    by_cases h2 : j = xs.length
    · subst h2; simp
    · rw [if_neg h2]
      obtain ⟨m, hm⟩ : ∃ m, j - xs.length = m + 1 := ⟨j - xs.length - 1, by omega⟩
      rw [hm, List.getElem?_cons_succ]
      by_cases h3 : j + 8 < 64 * nbk xs.length
      · rw [if_pos h3, List.getElem?_append_left (by simp; omega)]
        rw [List.getElem?_replicate, if_pos (by omega)]
        rfl
      · rw [if_neg h3, List.getElem?_append_right (by simp; omega), List.length_replicate]
        rw [show (8 * (xs.length : Int)) = ((8 * xs.length : Nat) : Int) by omega, be8_N]
        rw [show j + 8 - 64 * nbk xs.length = m - (64 * nbk xs.length - xs.length - 9) by omega]
        have := castL_get (be8N (8 * xs.length)) (m - (64 * nbk xs.length - xs.length - 9))
        simpa only [List.getD_eq_getElem?_getD] using this
theorem padN_by {xs : List Nat} (h : ByN xs) : ByN (padN xs) := by
  intro x hx
  simp only [padN, List.mem_append, List.mem_cons, List.mem_replicate] at hx
  rcases hx with h1 | rfl | ⟨_, rfl⟩ | h1
  · exact h x h1
  · omega
  · omega
  · simp only [be8N, List.mem_cons, List.not_mem_nil, or_false] at h1
    rcases h1 with rfl | rfl | rfl | rfl | rfl | rfl | rfl | rfl <;> exact Nat.mod_lt _ (by decide)
def goN : Nat → SN → List Nat → SN
  | 0, s, _ => s
  | n + 1, s, ws => goN n (s.mix (ws.take 16)) (ws.drop 16)
def shaN (xs : List Nat) : List Nat := (goN (nbk xs.length) ivN (wordsN (padN xs))).out
theorem goN_to {xs : List Nat} (h : ByN xs) : ∀ (n i : Nat) (s : SN), i + n = nbk xs.length → s.Ok → s.to = shaSt (castL xs) i → (goN n s ((wordsN (padN xs)).drop (16 * i))).to = shaSt (castL xs) (i + n)
  | 0, i, s, _, _, hs => hs
  | n + 1, i, s, hn, ho, hs => by
    have hl := padN_len xs
    have hwl := wordsN_len (16 * nbk xs.length) (padN xs) (by omega)
    have hm := SN.mix_to (B := blkF (castL xs) i) (ws := ((wordsN (padN xs)).drop (16 * i)).take 16) (by simp [hwl]; omega) (fun j hj => by
      have e : (((wordsN (padN xs)).drop (16 * i)).take 16).getD j 0 = (wordsN (padN xs)).getD (16 * i + j) 0 := by
        simp only [List.getD_eq_getElem?_getD]
        rw [List.getElem?_take_of_lt hj, List.getElem?_drop]
      rw [e, wordsN_get (16 * nbk xs.length) (padN xs) (by omega) _ (by omega)]
      have hb := (padN_by h).get
      refine wd_N (hb _) (hb _) (hb _) (hb _) ?_ ?_ ?_ ?_
      all_goals
        unfold blkF
        rw [padN_get xs (by omega)]
        congr 2
        omega) ho
    have := goN_to h n (i + 1) _ (by omega) hm.2 (by rw [← hm.1, hs]; rfl)
    rw [show i + (n + 1) = i + 1 + n by omega, ← this]
    show (goN n _ (((wordsN (padN xs)).drop (16 * i)).drop 16)).to = _
    rw [List.drop_drop, show 16 * i + 16 = 16 * (i + 1) by omega]
/-- The digest of bytes, over naturals. -/
theorem sha_N {xs : List Nat} (h : ByN xs) : sha (castL xs) = castL (shaN xs) := by
  unfold sha shaN
  rw [← SN.out_to, castL_len]
  have := goN_to h (nbk xs.length) 0 ivN (by omega) ivN_ok ivN_to
  rw [Nat.zero_add] at this
  rw [← this]
  rfl
end Go.Proofs.YtjgfjmkfcippcaaDoor
