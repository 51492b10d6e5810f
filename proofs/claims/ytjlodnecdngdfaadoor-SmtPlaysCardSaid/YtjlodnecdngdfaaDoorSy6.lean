/-
  Sparse trees, plain: what stands where, a key put in, a key taken out.; Sparse trees, plain: a key taken out; a tree's hash hangs on its keys alone.; Package smt: a node of a tree, and a map's own cells, in memory.; The frame of every law's proof: a call that answers true, and of what there was turns nothing, is what the row asks.; A map from hashes to hashes, any number of pairs, in memory.; Package smt: the small walks on a map of one pair: made, bit, here, climb, above.; Package smt: what stands at a leaf's own depth, in a map of one pair.
-/
import Derived.MapKept
import Derived.Test.YtjlodnecdngdfaaDoorRows
import Derived.WalkKit
import Derived.ProofKit
import Derived.OpenShut
import Derived.Lib.SmallJoins
import Derived.Maps.OwnSet
import Derived.DeepKeys5
import Derived.Test.YtjlodnecdngdfaaDoorSy2
import Derived.Test.YtjlodnecdngdfaaDoorSy5
namespace Go.Proofs.YtjlodnecdngdfaaDoor
open Go.RowKit
set_option maxRecDepth 100000

structure KyOk (k : List Int) : Prop where
  len : k.length = 32
  by_ : Bytes k
/-- Two keys have the same bits ahead of a place. -/
def AgreeB (f : Nat) (a b : List Int) : Prop := ∀ i, i < f → bitI a i = bitI b i
theorem AgreeB.refl (f : Nat) (a : List Int) : AgreeB f a a := fun _ _ => rfl
theorem AgreeB.symm {f : Nat} {a b : List Int} (h : AgreeB f a b) : AgreeB f b a := fun i hi => (h i hi).symm
theorem AgreeB.trans {f : Nat} {a b c : List Int} (h : AgreeB f a b) (k : AgreeB f b c) : AgreeB f a c := fun i hi => (h i hi).trans (k i hi)
theorem AgreeB.mono {f g : Nat} {a b : List Int} (h : AgreeB f a b) (hg : g ≤ f) : AgreeB g a b := fun i hi => h i (by omega)
theorem bit01 (K : List Int) (i : Nat) : bitI K i = 0 ∨ bitI K i = 1 := by unfold bitI; omega

/-! ### Keys are their bits -/
theorem byte_bits {x y : Int} (hx : 0 ≤ x ∧ x < 256) (hy : 0 ≤ y ∧ y < 256) (h : ∀ j, j < 8 → x / 2 ^ (7 - j) % 2 = y / 2 ^ (7 - j) % 2) : x = y := by
  have h0 : x / 128 % 2 = y / 128 % 2 := h 0 (by omega)
  have h1 : x / 64 % 2 = y / 64 % 2 := h 1 (by omega)
  have h2 : x / 32 % 2 = y / 32 % 2 := h 2 (by omega)
  have h3 : x / 16 % 2 = y / 16 % 2 := h 3 (by omega)
  have h4 : x / 8 % 2 = y / 8 % 2 := h 4 (by omega)
  have h5 : x / 4 % 2 = y / 4 % 2 := h 5 (by omega)
  have h6 : x / 2 % 2 = y / 2 % 2 := h 6 (by omega)
  have h7 : x / 1 % 2 = y / 1 % 2 := h 7 (by omega)
  omega
theorem key_eq {a b : List Int} (ha : KyOk a) (hb : KyOk b) (h : AgreeB 256 a b) : a = b := by
  apply List.ext_getElem (by rw [ha.len, hb.len])
  intro i h1 h2
  have hi : i < 32 := by have := ha.len; omega
  have ea : a[i] = a.getD i 0 := by simp [List.getD, h1]
  have eb : b[i] = b.getD i 0 := by simp [List.getD, h2]
  rw [ea, eb]
  refine byte_bits ?_ ?_ (fun j hj => ?_)
  · rw [← ea]; exact ha.by_ _ (List.getElem_mem h1)
  · rw [← eb]; exact hb.by_ _ (List.getElem_mem h2)
  · have := h (8 * i + j) (by omega)
    unfold bitI at this
    rw [show (8 * i + j) / 8 = i by omega, show (8 * i + j) % 8 = j by omega] at this
    exact this
/-- The first place where two keys part; 256 where they don't. -/
def difG (a b : List Int) : Nat → Nat → Nat
  | i, 0 => i
  | i, n + 1 => if bitI a i = bitI b i then difG a b (i + 1) n else i
def dif (a b : List Int) : Nat := difG a b 0 256
theorem difG_spec (a b : List Int) : ∀ (n i : Nat), i ≤ difG a b i n ∧ difG a b i n ≤ i + n ∧ (∀ j, i ≤ j → j < difG a b i n → bitI a j = bitI b j) ∧ (difG a b i n < i + n → bitI a (difG a b i n) ≠ bitI b (difG a b i n))
  | 0, i => ⟨Nat.le_refl _, Nat.le_refl _, fun j h1 h2 => by simp only [difG] at h2; omega, fun h => by simp only [difG] at h; omega⟩
  | n + 1, i => by
    unfold difG
    by_cases h : bitI a i = bitI b i
    · rw [if_pos h]
      obtain ⟨h1, h2, h3, h4⟩ := difG_spec a b n (i + 1)
      refine ⟨by omega, by omega, fun j hj hl => ?_, fun hl => h4 (by omega)⟩
      by_cases e : j = i
      · rw [e]; exact h
      · exact h3 j (by omega) hl
    · rw [if_neg h]
      exact ⟨Nat.le_refl _, by omega, fun j h1 h2 => by omega, fun _ => h⟩
theorem dif_le (a b : List Int) : dif a b ≤ 256 := by have := (difG_spec a b 256 0).2.1; unfold dif; omega
theorem dif_agree (a b : List Int) : AgreeB (dif a b) a b := fun i hi => (difG_spec a b 256 0).2.2.1 i (Nat.zero_le _) hi
theorem dif_ne {a b : List Int} (h : dif a b < 256) : bitI a (dif a b) ≠ bitI b (dif a b) := (difG_spec a b 256 0).2.2.2 (by unfold dif at h; omega)
theorem dif_of {a b : List Int} {f : Nat} (h : AgreeB f a b) (hf : f ≤ 256) : f ≤ dif a b := by
  rcases Nat.lt_or_ge (dif a b) f with h1 | h1
  · exact absurd (h _ h1) (dif_ne (by omega))
  · exact h1
theorem dif_is {a b : List Int} {f : Nat} (h : AgreeB f a b) (hf : f < 256) (hne : bitI a f ≠ bitI b f) : dif a b = f := by
  have h1 := dif_of h (Nat.le_of_lt hf)
  rcases Nat.lt_or_ge f (dif a b) with h2 | h2
  · exact absurd (dif_agree a b f h2) hne
  · omega

/-! ### Trees -/
inductive Tr where
  | lf (k : List Int) : Tr
  | nd (k : List Int) (f : Nat) (l r : Tr) : Tr
def Tr.key : Tr → List Int
  | .lf k => k
  | .nd k _ _ _ => k
def Tr.fork : Tr → Nat
  | .lf _ => 256
  | .nd _ f _ _ => f
def Tr.keys : Tr → List (List Int)
  | .lf k => [k]
  | .nd _ _ l r => l.keys ++ r.keys
def Tr.ok : Tr → Prop
  | .lf k => KyOk k
  | .nd k f l r => KyOk k ∧ f < 256 ∧ l.ok ∧ r.ok ∧ f < l.fork ∧ f < r.fork ∧ (∀ x ∈ l.keys, AgreeB f k x ∧ bitI x f = 0) ∧ (∀ x ∈ r.keys, AgreeB f k x ∧ bitI x f = 1)
theorem Tr.keys_ne : ∀ t : Tr, t.keys ≠ []
  | .lf k => by simp [Tr.keys]
  | .nd _ _ l r => by simp [Tr.keys, Tr.keys_ne l]
theorem Tr.ok.keyOk : ∀ {t : Tr}, t.ok → KyOk t.key
  | .lf _, h => h
  | .nd _ _ _ _, h => h.1
theorem Tr.ok.fork_le : ∀ {t : Tr}, t.ok → t.fork ≤ 256
  | .lf _, _ => Nat.le_refl _
  | .nd _ _ _ _, h => Nat.le_of_lt h.2.1
theorem Tr.ok.keysOk : ∀ {t : Tr}, t.ok → ∀ x ∈ t.keys, KyOk x
  | .lf k, h, x, hx => by
    obtain rfl : x = k := by simpa [Tr.keys] using hx
    exact h
  | .nd _ _ l r, h, x, hx => by
    rcases List.mem_append.1 hx with hx | hx
    · exact Tr.ok.keysOk h.2.2.1 x hx
    · exact Tr.ok.keysOk h.2.2.2.1 x hx
/-- All keys of a tree have its own key's bits ahead of its fork. -/
theorem Tr.ok.agree : ∀ {t : Tr}, t.ok → ∀ x ∈ t.keys, AgreeB t.fork t.key x
  | .lf k, _, x, hx => by
    obtain rfl : x = k := by simpa [Tr.keys] using hx
    exact AgreeB.refl _ _
  | .nd _ _ l r, h, x, hx => by
    rcases List.mem_append.1 hx with hx | hx
    · exact (h.2.2.2.2.2.2.1 x hx).1
    · exact (h.2.2.2.2.2.2.2 x hx).1
/-- A branch's own key. -/
theorem Tr.ok.lo {k : List Int} {f : Nat} {l r : Tr} (h : (Tr.nd k f l r).ok) : AgreeB f k l.key ∧ bitI l.key f = 0 := by
  obtain ⟨_, _, hl, _, fl, _, al, _⟩ := h
  obtain ⟨x, hx⟩ := List.exists_mem_of_ne_nil _ l.keys_ne
  have h1 := hl.agree x hx
  obtain ⟨h2, h3⟩ := al x hx
  exact ⟨h2.trans (h1.mono (Nat.le_of_lt fl)).symm, (h1 f fl).trans h3⟩
theorem Tr.ok.hi {k : List Int} {f : Nat} {l r : Tr} (h : (Tr.nd k f l r).ok) : AgreeB f k r.key ∧ bitI r.key f = 1 := by
  obtain ⟨_, _, _, hr, _, fr, _, ar⟩ := h
  obtain ⟨x, hx⟩ := List.exists_mem_of_ne_nil _ r.keys_ne
  have h1 := hr.agree x hx
  obtain ⟨h2, h3⟩ := ar x hx
  exact ⟨h2.trans (h1.mono (Nat.le_of_lt fr)).symm, (h1 f fr).trans h3⟩

/-! ### What stands where -/
def hereH (V : List Int → List Int) : Tr → List Int
  | .lf k => lfH k (V k)
  | .nd _ f l r => abH (upH l.key l.fork (hereH V l) (l.fork - (f + 1))) (upH r.key r.fork (hereH V r) (r.fork - (f + 1)))
def aboveH (V : List Int → List Int) (t : Tr) (lv : Nat) : List Int := upH t.key t.fork (hereH V t) (t.fork - lv)
theorem hereH_len (V : List Int → List Int) : ∀ t : Tr, (hereH V t).length = 32
  | .lf _ => lfH_len _ _
  | .nd _ _ _ _ => abH_len _ _
theorem hereH_bytes (V : List Int → List Int) : ∀ t : Tr, Bytes (hereH V t)
  | .lf _ => lfH_bytes _ _
  | .nd _ _ _ _ => abH_bytes _ _
theorem aboveH_len (V : List Int → List Int) (t : Tr) (lv : Nat) : (aboveH V t lv).length = 32 := upH_len _ _ (hereH_len V t) _
theorem aboveH_bytes (V : List Int → List Int) (t : Tr) (lv : Nat) : Bytes (aboveH V t lv) := upH_bytes _ _ (hereH_bytes V t) _
theorem hereH_congr {V W : List Int → List Int} : ∀ {t : Tr}, (∀ x ∈ t.keys, V x = W x) → hereH V t = hereH W t
  | .lf k, h => by unfold hereH; rw [h k (by simp [Tr.keys])]
  | .nd k f l r, h => by
    unfold hereH
    rw [hereH_congr (t := l) (fun x hx => h x (List.mem_append.2 (.inl hx))), hereH_congr (t := r) (fun x hx => h x (List.mem_append.2 (.inr hx)))]
theorem aboveH_congr {V W : List Int → List Int} {t : Tr} {lv : Nat} (h : ∀ x ∈ t.keys, V x = W x) : aboveH V t lv = aboveH W t lv := by
  unfold aboveH
  rw [hereH_congr h]

/-! ### A key put in -/
def Tr.ins (key : List Int) : Tr → Tr
  | .lf k => if dif key k < 256 then (if bitI key (dif key k) = 0 then .nd key (dif key k) (.lf key) (.lf k) else .nd key (dif key k) (.lf k) (.lf key)) else .lf k
  | .nd k f l r => if dif key k < f then (if bitI key (dif key k) = 0 then .nd key (dif key k) (.lf key) (.nd k f l r) else .nd key (dif key k) (.nd k f l r) (.lf key))
    else if bitI key f = 0 then .nd k f (l.ins key) r else .nd k f l (r.ins key)
theorem Tr.ins_keys (key : List Int) : ∀ {t : Tr}, t.ok → KyOk key → key ∉ t.keys → (t.ins key).keys.Perm (key :: t.keys)
  | .lf k, h, hk, hn => by
    have hd : dif key k < 256 := by
      rcases Nat.lt_or_ge (dif key k) 256 with h1 | h1
      · exact h1
      · exact absurd (key_eq hk h ((dif_agree key k).mono h1)) (by simpa [Tr.keys] using hn)
    unfold Tr.ins
    rw [if_pos hd]
    split
    · exact List.Perm.refl _
    · exact List.Perm.swap _ _ _
  | .nd k f l r, h, hk, hn => by
    have hnl : key ∉ l.keys := fun hx => hn (List.mem_append.2 (.inl hx))
    have hnr : key ∉ r.keys := fun hx => hn (List.mem_append.2 (.inr hx))
    unfold Tr.ins
    split
    · split
      · exact List.Perm.refl _
      · show (((Tr.nd k f l r).keys ++ [key])).Perm _
        exact List.perm_append_comm
    · split
      · show ((l.ins key).keys ++ r.keys).Perm (key :: (l.keys ++ r.keys))
        exact (Tr.ins_keys key h.2.2.1 hk hnl).append_right _
      · show (l.keys ++ (r.ins key).keys).Perm (key :: (l.keys ++ r.keys))
        exact ((Tr.ins_keys key h.2.2.2.1 hk hnr).append_left _).trans List.perm_middle
theorem Tr.ins_fork_lt {key : List Int} {f : Nat} : ∀ {t : Tr}, t.ok → f < t.fork → AgreeB f key t.key → bitI key f = bitI t.key f → f < 256 → f < (t.ins key).fork
  | .lf k, _, _, ha, hb, hf => by
    unfold Tr.ins
    split
    · have : f + 1 ≤ dif key k := dif_of (fun i hi => by
        by_cases e : i = f
        · rw [e]; exact hb
        · exact ha i (by omega)) (by omega)
      split <;> (show f < dif key k; omega)
    · exact hf
  | .nd k g l r, _, hg, ha, hb, hf => by
    unfold Tr.ins
    have : f + 1 ≤ dif key k := dif_of (fun i hi => by
      by_cases e : i = f
      · rw [e]; exact hb
      · exact ha i (by omega)) (by omega)
    split
    · split <;> (show f < dif key k; omega)
    · split <;> exact hg
theorem Tr.ins_ok (key : List Int) : ∀ {t : Tr}, t.ok → KyOk key → key ∉ t.keys → (t.ins key).ok
  | .lf k, h, hk, hn => by
    have hd : dif key k < 256 := by
      rcases Nat.lt_or_ge (dif key k) 256 with h1 | h1
      · exact h1
      · exact absurd (key_eq hk h ((dif_agree key k).mono h1)) (by simpa [Tr.keys] using hn)
    have hne := dif_ne hd
    have ha := dif_agree key k
    unfold Tr.ins
    rw [if_pos hd]
    rcases bit01 key (dif key k) with e | e <;> rcases bit01 k (dif key k) with e2 | e2 <;> (try (rw [e, e2] at hne; exact absurd rfl hne))
    · rw [if_pos e]
      refine ⟨hk, hd, hk, h, hd, hd, fun x hx => ?_, fun x hx => ?_⟩
      · obtain rfl : x = key := by simpa [Tr.keys] using hx
        exact ⟨AgreeB.refl _ _, e⟩
      · obtain rfl : x = k := by simpa [Tr.keys] using hx
        exact ⟨ha, e2⟩
    · rw [if_neg (by rw [e]; decide)]
      refine ⟨hk, hd, h, hk, hd, hd, fun x hx => ?_, fun x hx => ?_⟩
      · obtain rfl : x = k := by simpa [Tr.keys] using hx
        exact ⟨ha, e2⟩
      · obtain rfl : x = key := by simpa [Tr.keys] using hx
        exact ⟨AgreeB.refl _ _, e⟩
  | .nd k f l r, h, hk, hn => by
    have hnl : key ∉ l.keys := fun hx => hn (List.mem_append.2 (.inl hx))
    have hnr : key ∉ r.keys := fun hx => hn (List.mem_append.2 (.inr hx))
    have ha := dif_agree key k
    unfold Tr.ins
    by_cases hd : dif key k < f
    · rw [if_pos hd]
      have hd2 : dif key k < 256 := Nat.lt_trans hd h.2.1
      have hne := dif_ne hd2
      have hx : ∀ x ∈ (Tr.nd k f l r).keys, AgreeB (dif key k) key x ∧ bitI x (dif key k) = bitI k (dif key k) := fun x hx => by
        have h1 := h.agree x hx
        exact ⟨ha.trans (h1.mono (Nat.le_of_lt hd)), (h1 _ hd).symm⟩
      rcases bit01 key (dif key k) with e | e <;> rcases bit01 k (dif key k) with e2 | e2 <;> (try (rw [e, e2] at hne; exact absurd rfl hne))
      · rw [if_pos e]
        refine ⟨hk, hd2, hk, h, hd2, hd, fun x hx => ?_, fun x hx2 => ?_⟩
        · obtain rfl : x = key := by simpa [Tr.keys] using hx
          exact ⟨AgreeB.refl _ _, e⟩
        · obtain ⟨h1, h2⟩ := hx x hx2
          exact ⟨h1, h2.trans e2⟩
      · rw [if_neg (by rw [e]; decide)]
        refine ⟨hk, hd2, h, hk, hd, hd2, fun x hx2 => ?_, fun x hx => ?_⟩
        · obtain ⟨h1, h2⟩ := hx x hx2
          exact ⟨h1, h2.trans e2⟩
        · obtain rfl : x = key := by simpa [Tr.keys] using hx
          exact ⟨AgreeB.refl _ _, e⟩
    · rw [if_neg hd]
      have hak : AgreeB f k key := (ha.mono (by omega)).symm
      obtain ⟨l1, l2⟩ := h.lo
      obtain ⟨r1, r2⟩ := h.hi
      obtain ⟨a1, a2, a3, a4, a5, a6, a7, a8⟩ := h
      rcases bit01 key f with e | e
      · rw [if_pos e]
        refine ⟨a1, a2, Tr.ins_ok key a3 hk hnl, a4, Tr.ins_fork_lt a3 a5 (hak.symm.trans l1) (by rw [e, l2]) a2, a6, fun x hx => ?_, a8⟩
        rcases List.mem_cons.1 ((Tr.ins_keys key a3 hk hnl).mem_iff.1 hx) with rfl | hx
        · exact ⟨hak, e⟩
        · exact a7 x hx
      · rw [if_neg (by rw [e]; decide)]
        refine ⟨a1, a2, a3, Tr.ins_ok key a4 hk hnr, a5, Tr.ins_fork_lt a4 a6 (hak.symm.trans r1) (by rw [e, r2]) a2, a7, fun x hx => ?_⟩
        rcases List.mem_cons.1 ((Tr.ins_keys key a4 hk hnr).mem_iff.1 hx) with rfl | hx
        · exact ⟨hak, e⟩
        · exact a8 x hx
/-! ### A key taken out -/
def Tr.del (key : List Int) : Tr → Option Tr
  | .lf _ => none
  | .nd _ f l r => if bitI key f = 0 then (match l.del key with | none => some r | some l' => some (.nd l'.key f l' r)) else (match r.del key with | none => some l | some r' => some (.nd r'.key f l r'))
def keysO : Option Tr → List (List Int)
  | none => []
  | some t => t.keys
end Go.Proofs.YtjlodnecdngdfaaDoor
namespace Go.Proofs.YtjlodnecdngdfaaDoor
open Go.RowKit
set_option maxRecDepth 100000

theorem Tr.del_keys (key : List Int) : ∀ {t : Tr}, t.ok → key ∈ t.keys → t.keys.Perm (key :: keysO (t.del key))
  | .lf k, _, hk => by
    obtain rfl : key = k := by simpa [Tr.keys] using hk
    exact List.Perm.refl _
  | .nd k f l r, h, hk => by
    obtain ⟨a1, a2, a3, a4, a5, a6, a7, a8⟩ := h
    unfold Tr.del
    rcases List.mem_append.1 hk with hk | hk
    · rw [if_pos (a7 key hk).2]
      have ih := Tr.del_keys key a3 hk
      show (l.keys ++ r.keys).Perm _
      cases e : l.del key with
      | none => rw [e] at ih; exact ih.append_right _
      | some l' => rw [e] at ih; exact ih.append_right _
    · rw [if_neg (by rw [(a8 key hk).2]; decide)]
      have ih := Tr.del_keys key a4 hk
      show (l.keys ++ r.keys).Perm _
      cases e : r.del key with
      | none =>
        rw [e] at ih
        have h1 := (ih.append_left l.keys).trans (List.perm_middle (l₁ := l.keys) (a := key) (l₂ := []))
        rw [List.append_nil] at h1
        exact h1
      | some r' =>
        rw [e] at ih
        exact (ih.append_left _).trans List.perm_middle
theorem Tr.del_ok (key : List Int) : ∀ {t t' : Tr}, t.ok → key ∈ t.keys → t.del key = some t' → t'.ok ∧ t.fork ≤ t'.fork
  | .lf k, t', _, _, hd => by cases hd
  | .nd k f l r, t', h, hk, hd => by
    have h0 := h
    obtain ⟨a1, a2, a3, a4, a5, a6, a7, a8⟩ := h
    unfold Tr.del at hd
    rcases List.mem_append.1 hk with hk | hk
    · rw [if_pos (a7 key hk).2] at hd
      have ik := Tr.del_keys key a3 hk
      cases e : l.del key with
      | none =>
        rw [e] at hd
        obtain rfl : r = t' := Option.some.inj hd
        exact ⟨a4, Nat.le_of_lt a6⟩
      | some l' =>
        rw [e] at hd ik
        obtain rfl : Tr.nd l'.key f l' r = t' := Option.some.inj hd
        obtain ⟨o1, o2⟩ := Tr.del_ok key a3 hk e
        have hin : ∀ x ∈ l'.keys, x ∈ l.keys := fun x hx => ik.mem_iff.2 (List.mem_cons_of_mem _ hx)
        have hkk : AgreeB f l'.key k := by
          obtain ⟨x, hx⟩ := List.exists_mem_of_ne_nil _ l'.keys_ne
          exact ((o1.agree x hx).mono (by omega)).trans (a7 x (hin x hx)).1.symm
        exact ⟨⟨o1.keyOk, a2, o1, a4, by omega, a6, fun x hx => ⟨hkk.trans (a7 x (hin x hx)).1, (a7 x (hin x hx)).2⟩, fun x hx => ⟨hkk.trans (a8 x hx).1, (a8 x hx).2⟩⟩, Nat.le_refl _⟩
    · rw [if_neg (by rw [(a8 key hk).2]; decide)] at hd
      have ik := Tr.del_keys key a4 hk
      cases e : r.del key with
      | none =>
        rw [e] at hd
        obtain rfl : l = t' := Option.some.inj hd
        exact ⟨a3, Nat.le_of_lt a5⟩
      | some r' =>
        rw [e] at hd ik
        obtain rfl : Tr.nd r'.key f l r' = t' := Option.some.inj hd
        obtain ⟨o1, o2⟩ := Tr.del_ok key a4 hk e
        have hin : ∀ x ∈ r'.keys, x ∈ r.keys := fun x hx => ik.mem_iff.2 (List.mem_cons_of_mem _ hx)
        have hkk : AgreeB f r'.key k := by
          obtain ⟨x, hx⟩ := List.exists_mem_of_ne_nil _ r'.keys_ne
          exact ((o1.agree x hx).mono (by omega)).trans (a8 x (hin x hx)).1.symm
        exact ⟨⟨o1.keyOk, a2, a3, o1, a5, by omega, fun x hx => ⟨hkk.trans (a7 x hx).1, (a7 x hx).2⟩, fun x hx => ⟨hkk.trans (a8 x (hin x hx)).1, (a8 x (hin x hx)).2⟩⟩, Nat.le_refl _⟩
theorem Tr.ok.nodup : ∀ {t : Tr}, t.ok → t.keys.Nodup
  | .lf k, _ => by simp [Tr.keys]
  | .nd k f l r, h => by
    obtain ⟨a1, a2, a3, a4, a5, a6, a7, a8⟩ := h
    refine List.nodup_append.2 ⟨a3.nodup, a4.nodup, fun x hx y hy e => ?_⟩
    subst e
    have := (a7 x hx).2
    have := (a8 x hy).2
    omega

/-! ### The hash, level by level -/
def pl (V : List Int → List Int) : Nat → List (List Int) → List Int
  | 0, [] => zero32
  | 0, k :: _ => lfH k (V k)
  | n + 1, S => abH (pl V n (S.filter fun x => bitI x (255 - n) == 0)) (pl V n (S.filter fun x => !(bitI x (255 - n) == 0)))
theorem pl_nil (V : List Int → List Int) : ∀ n, pl V n [] = zero32
  | 0 => rfl
  | n + 1 => by unfold pl; rw [List.filter_nil, List.filter_nil, pl_nil V n, abH_zero]
theorem filter_all {α : Type} {p : α → Bool} {S : List α} (h : ∀ x ∈ S, p x = true) : S.filter p = S := List.filter_eq_self.2 h
theorem filter_none {α : Type} {p : α → Bool} {S : List α} (h : ∀ x ∈ S, p x = false) : S.filter p = [] := List.filter_eq_nil_iff.2 (fun x hx => by rw [h x hx]; decide)
theorem upH_pl (V : List Int → List Int) {t : Tr} (ok : t.ok) (hb : hereH V t = pl V (256 - t.fork) t.keys) : ∀ j, j ≤ t.fork → upH t.key t.fork (hereH V t) j = pl V (256 - (t.fork - j)) t.keys
  | 0, _ => by rw [Nat.sub_zero]; exact hb
  | j + 1, hj => by
    have hf := ok.fork_le
    have ih := upH_pl V ok hb j (by omega)
    rw [upH, ih]
    have e1 : 256 - (t.fork - (j + 1)) = (256 - (t.fork - j)) + 1 := by omega
    rw [e1]
    have e2 : 255 - (256 - (t.fork - j)) = t.fork - 1 - j := by omega
    unfold stp
    rw [pl, e2]
    have hx : ∀ x ∈ t.keys, bitI x (t.fork - 1 - j) = bitI t.key (t.fork - 1 - j) := fun x hx => (ok.agree x hx _ (by omega)).symm
    rcases bit01 t.key (t.fork - 1 - j) with e | e
    · rw [if_pos e, filter_all (fun x h => by rw [hx x h, e]; rfl), filter_none (fun x h => by rw [hx x h, e]; rfl), pl_nil]
    · rw [if_neg (by rw [e]; decide), filter_none (fun x h => by rw [hx x h, e]; rfl), filter_all (fun x h => by rw [hx x h, e]; rfl), pl_nil]
theorem hereH_pl (V : List Int → List Int) : ∀ {t : Tr}, t.ok → hereH V t = pl V (256 - t.fork) t.keys
  | .lf k, _ => rfl
  | .nd k f l r, h => by
    obtain ⟨a1, a2, a3, a4, a5, a6, a7, a8⟩ := h
    have il := upH_pl V a3 (hereH_pl V a3) (l.fork - (f + 1)) (by omega)
    have ir := upH_pl V a4 (hereH_pl V a4) (r.fork - (f + 1)) (by omega)
    unfold hereH
    rw [il, ir]
    show _ = pl V (256 - f) (l.keys ++ r.keys)
    rw [show 256 - f = (255 - f) + 1 by omega, pl, show 255 - (255 - f) = f by omega, List.filter_append, List.filter_append,
      filter_all (fun x h => by rw [(a7 x h).2]; rfl), filter_none (S := r.keys) (fun x h => by rw [(a8 x h).2]; rfl), filter_none (S := l.keys) (fun x h => by rw [(a7 x h).2]; rfl), filter_all (S := r.keys) (fun x h => by rw [(a8 x h).2]; rfl),
      List.append_nil, List.nil_append, show 256 - (l.fork - (l.fork - (f + 1))) = 255 - f by omega, show 256 - (r.fork - (r.fork - (f + 1))) = 255 - f by omega]
theorem aboveH_pl (V : List Int → List Int) {t : Tr} (ok : t.ok) {lv : Nat} (h : lv ≤ t.fork) : aboveH V t lv = pl V (256 - lv) t.keys := by
  unfold aboveH
  rw [upH_pl V ok (hereH_pl V ok) _ (by omega), show t.fork - (t.fork - lv) = lv by omega]
/-- It hangs on which keys there are, and on their values. -/
theorem pl_congr {V W : List Int → List Int} : ∀ (n : Nat) {S S' : List (List Int)}, n ≤ 256 → (∀ x ∈ S, KyOk x) → (∀ x ∈ S, ∀ y ∈ S, AgreeB (256 - n) x y) → (∀ x, x ∈ S ↔ x ∈ S') → (∀ x ∈ S, V x = W x) → pl V n S = pl W n S'
  | 0, [], S', _, _, _, hm, _ => by
    have : S' = [] := List.eq_nil_iff_forall_not_mem.2 (fun x hx => by have := (hm x).2 hx; simp at this)
    rw [this]; rfl
  | 0, k :: S, S', _, hok, ha, hm, hv => by
    cases S' with
    | nil => have := (hm k).1 (by simp); simp at this
    | cons k' S' =>
      have hk' : k' ∈ k :: S := (hm k').2 (by simp)
      have e : k = k' := key_eq (hok k (by simp)) (hok k' hk') (ha k (by simp) k' hk')
      subst e
      show lfH k (V k) = lfH k (W k)
      rw [hv k (by simp)]
  | n + 1, S, S', hn, hok, ha, hm, hv => by
    unfold pl
    have key : ∀ p : Int → Bool, (∀ a b, p a = true → p b = true → (a = 0 ∨ a = 1) → (b = 0 ∨ b = 1) → a = b) → pl V n (S.filter fun x => p (bitI x (255 - n))) = pl W n (S'.filter fun x => p (bitI x (255 - n))) := fun p hp => by
      refine pl_congr n (by omega) (fun x hx => hok x (List.mem_filter.1 hx).1) (fun x hx y hy i hi => ?_) (fun x => ?_) (fun x hx => hv x (List.mem_filter.1 hx).1)
      · obtain ⟨x1, x2⟩ := List.mem_filter.1 hx
        obtain ⟨y1, y2⟩ := List.mem_filter.1 hy
        by_cases e : i = 255 - n
        · rw [e]; exact hp _ _ x2 y2 (bit01 _ _) (bit01 _ _)
        · exact ha x x1 y y1 i (by omega)
      · rw [List.mem_filter, List.mem_filter, hm x]
    rw [key (fun z => z == 0) (fun a b h1 h2 _ _ => by simp at h1 h2; rw [h1, h2]), key (fun z => !(z == 0)) (fun a b h1 h2 h3 h4 => by simp at h1 h2; omega)]
end Go.Proofs.YtjlodnecdngdfaaDoor
namespace Go.Proofs.YtjlodnecdngdfaaDoor
open Go.RowKit
set_option maxRecDepth 100000

/-- A node. -/
structure Nd where
  key : List Int
  fork : Int
  lo : Option Addr
  hi : Option Addr
  own : List Int
  told : Bool
  high : List Int
  lvl : Int
  known : Bool
def Nd.row (n : Nd) : List Value := hc n.key ++ ([.int .i64 n.fork, .pointer n.lo, .pointer n.hi] ++ (hc n.own ++ ([.bool n.told] ++ (hc n.high ++ [.int .i64 n.lvl, .bool n.known]))))
structure Nd.ok (n : Nd) : Prop where
  key : n.key.length = 32
  own : n.own.length = 32
  high : n.high.length = 32
theorem Nd.ok.len {n : Nd} (h : n.ok) : n.row.length = 102 := by simp [Nd.row, hc_len, h.key, h.own, h.high]
theorem Nd.one (n : Nd) : n.row.toArray.all (·.oneCell') = true := by
  refine all_oneCell_toArray fun v hv => ?_
  simp only [Nd.row, List.mem_append, List.mem_cons, List.not_mem_nil, or_false] at hv
  rcases hv with hv | (rfl | rfl | rfl) | hv | rfl | hv | rfl | rfl
  any_goals rfl
  all_goals exact (Array.all_eq_true_iff_forall_mem.1 (hc_one _)) v (by simpa using hv)
def nd0 : Nd := ⟨zero32, 0, none, none, zero32, false, zero32, 0, false⟩
theorem take_midd (pre mid post : List Value) {o n : Nat} (hp : pre.length = o) (hm : mid.length = n) : ((pre ++ (mid ++ post)).drop o).take n = mid := by
  subst hp hm
  rw [List.drop_left, List.take_left]

/-- Block b holds the node n. -/
def NdB (w : World) (b : Nat) (n : Nd) : Prop := w.heap[b]? = some (.cells n.row.toArray 88 (0, 0))
section
variable {w w' : World} {b : Nat} {n : Nd}
theorem NdB.lt (h : NdB w b n) : b < w.heap.size := (Array.getElem?_eq_some_iff.1 h).1
theorem NdB.facts (h : NdB w b n) (ok : n.ok) : w.cell? ⟨b, 32, none⟩ = some (.int .i64 n.fork) ∧ w.cell? ⟨b, 33, none⟩ = some (.pointer n.lo) ∧ w.cell? ⟨b, 34, none⟩ = some (.pointer n.hi) ∧ w.cell? ⟨b, 67, none⟩ = some (.bool n.told) ∧
    w.cell? ⟨b, 100, none⟩ = some (.int .i64 n.lvl) ∧ w.cell? ⟨b, 101, none⟩ = some (.bool n.known) ∧ rowOf w b 0 32 = hc n.key ∧ rowOf w b 35 32 = hc n.own ∧ rowOf w b 68 32 = hc n.high := by
  refine ⟨?_, ?_, ?_, ?_, ?_, ?_, ?_, ?_, ?_⟩
  all_goals first
    | (rw [cell_of_row _ _ _ _ _ _ h]; simp [Nd.row, hc_len, ok.key, ok.own, ok.high]; done)
    | skip
  · rw [rowOf_block h]
    simp [Nd.row, hc_len, ok.key]
  · rw [rowOf_block h]
    have := take_midd (hc n.key ++ [.int .i64 n.fork, .pointer n.lo, .pointer n.hi]) (hc n.own) ([.bool n.told] ++ (hc n.high ++ [.int .i64 n.lvl, .bool n.known])) (o := 35) (n := 32) (by simp [hc_len, ok.key]) (by simp [hc_len, ok.own])
    simpa [Nd.row] using this
  · rw [rowOf_block h]
    have := take_midd (hc n.key ++ ([.int .i64 n.fork, .pointer n.lo, .pointer n.hi] ++ (hc n.own ++ [.bool n.told]))) (hc n.high) [.int .i64 n.lvl, .bool n.known] (o := 68) (n := 32) (by simp [hc_len, ok.key, ok.own]) (by simp [hc_len, ok.high])
    simpa [Nd.row] using this
theorem NdB.free (h : NdB w b n) (i : Nat) : w.frozen? ⟨b, i, none⟩ = false := Joins.unfrozen_of_block h i
theorem NdB.there (h : NdB w b n) (ok : n.ok) {i k : Nat} (hi : i + k ≤ 102) : w.there b i k := fun j hj => by
  refine ⟨?_, h.free _⟩
  rw [cell_of_row _ _ _ _ _ _ h]
  have := ok.len
  simp [this]; omega
theorem NdB.chg {S : List Nat} (h : NdB w b n) (hc : Chg w w' S) (hp : b ∉ S) : NdB w' b n := by
  unfold NdB
  rw [hc.block b h.lt hp]; exact h
theorem NdB.on (h : NdB w b n) (hb : Below w.heap.size w w') : NdB w' b n := h.chg (S := []) (Chg.below hb (Nat.le_refl _) []) (by simp)
theorem NdB.alloc (h : NdB w b n) (x : Obj) : NdB (w.alloc x) b n := h.on ((Below.refl _ _).alloc (Nat.le_refl _) x)
theorem NdB.setOwn (h : NdB w b n) (ok : n.ok) {F : List Int} (hF : F.length = 32) : NdB (w.setCells b 35 (hc F)) b { n with own := F } := by
  have := setCells_block (b := b) (t := 88) (fr := (0, 0)) (hc F) (o := 35) (w := w) (pre := hc n.key ++ [.int .i64 n.fork, .pointer n.lo, .pointer n.hi]) (mid := hc n.own) (post := [.bool n.told] ++ (hc n.high ++ [.int .i64 n.lvl, .bool n.known])) (by simpa [NdB, Nd.row] using h) (by simp [hc_len, ok.key]) (by rw [hc_len, hc_len, ok.own, hF])
  simpa [NdB, Nd.row] using this
theorem NdB.setHigh (h : NdB w b n) (ok : n.ok) {F : List Int} (hF : F.length = 32) : NdB (w.setCells b 68 (hc F)) b { n with high := F } := by
  have := setCells_block (b := b) (t := 88) (fr := (0, 0)) (hc F) (o := 68) (w := w) (pre := hc n.key ++ ([.int .i64 n.fork, .pointer n.lo, .pointer n.hi] ++ (hc n.own ++ [.bool n.told]))) (mid := hc n.high) (post := [.int .i64 n.lvl, .bool n.known]) (by simpa [NdB, Nd.row] using h) (by simp [hc_len, ok.key, ok.own]) (by rw [hc_len, hc_len, ok.high, hF])
  simpa [NdB, Nd.row] using this
theorem NdB.setTold (h : NdB w b n) (ok : n.ok) (x : Bool) : NdB (w.setCell ⟨b, 67, none⟩ (.bool x)) b { n with told := x } := by
  have := setCells_block (b := b) (t := 88) (fr := (0, 0)) [.bool x] (o := 67) (w := w) (pre := hc n.key ++ ([.int .i64 n.fork, .pointer n.lo, .pointer n.hi] ++ hc n.own)) (mid := [.bool n.told]) (post := hc n.high ++ [.int .i64 n.lvl, .bool n.known]) (by simpa [NdB, Nd.row] using h) (by simp [hc_len, ok.key, ok.own]) rfl
  simpa [NdB, Nd.row, World.setCells] using this
theorem NdB.setLvl (h : NdB w b n) (ok : n.ok) (x : Int) : NdB (w.setCell ⟨b, 100, none⟩ (.int .i64 x)) b { n with lvl := x } := by
  have := setCells_block (b := b) (t := 88) (fr := (0, 0)) [.int .i64 x] (o := 100) (w := w) (pre := hc n.key ++ ([.int .i64 n.fork, .pointer n.lo, .pointer n.hi] ++ (hc n.own ++ ([.bool n.told] ++ hc n.high)))) (mid := [.int .i64 n.lvl]) (post := [.bool n.known]) (by simpa [NdB, Nd.row] using h) (by simp [hc_len, ok.key, ok.own, ok.high]) rfl
  simpa [NdB, Nd.row, World.setCells] using this
theorem NdB.setKnown (h : NdB w b n) (ok : n.ok) (x : Bool) : NdB (w.setCell ⟨b, 101, none⟩ (.bool x)) b { n with known := x } := by
  have := setCells_block (b := b) (t := 88) (fr := (0, 0)) [.bool x] (o := 101) (w := w) (pre := hc n.key ++ ([.int .i64 n.fork, .pointer n.lo, .pointer n.hi] ++ (hc n.own ++ ([.bool n.told] ++ (hc n.high ++ [.int .i64 n.lvl]))))) (mid := [.bool n.known]) (post := []) (by simpa [NdB, Nd.row] using h) (by simp [hc_len, ok.key, ok.own, ok.high]) rfl
  simpa [NdB, Nd.row, World.setCells] using this
end

/-! ### Building a node -/
theorem fill_at {place : Nat → Option (Nat × Nat)} {rest : List (Nat × Value)} {i off size : Nat} {v : Value} {pre mid post vs : List Value} (hp : place i = some (off, size)) (hv : v.cells = vs.toArray)
    (h1 : pre.length = off) (h2 : mid.length = size) (h3 : vs.length = size) :
    Instr.fill place (pre ++ (mid ++ post)).toArray ((i, v) :: rest) = Instr.fill place (pre ++ (vs ++ post)).toArray rest := by
  rw [Instr.fill, hp]
  have e1 : v.cells.size = size := by rw [hv]; simpa using h3
  have e2 : off + size ≤ (pre ++ (mid ++ post)).toArray.size := by simp; omega
  have e3 : (decide (v.cells.size ≠ size) || decide (off + v.cells.size > (pre ++ (mid ++ post)).toArray.size)) = false := by
    rw [e1]; simp at e2 ⊢; omega
  simp only [e3]
  rw [if_neg (by simp), hv, fold_put off size vs pre mid post h1 h2 h3]
def ndPlaces : List (Nat × Nat) := [(0, 32), (32, 1), (33, 2), (35, 32), (67, 1), (68, 32), (100, 1), (101, 1)]
theorem Tryd.built_nd (ps : List (Nat × Value)) : Tryd.prog.built 88 ps = Instr.fill (fun i => ndPlaces.toArray[i]?) nd0.row.toArray ps := by kernel_rfl
@[go_sem ↓] theorem Tryd.build_nd (ps : Array (Nat × Value)) : Instr.build 88 ps = rowBuild 88 ps := rfl
@[go_sem] theorem Tryd.run_nd (w : World) (f : Int) (F : List Int) (hF : F.length = 32) :
    (rowBuild 88 #[(0, .agg (hc F).toArray), (1, .int .i64 f)]).run Tryd.prog w = .ok (.agg (Nd.row ⟨F, f, none, none, zero32, false, zero32, 0, false⟩).toArray) w := by
  refine run_build w _ _ _ ?_
  rw [Tryd.built_nd]
  show Instr.fill _ _ ((0, Value.agg (hc F).toArray) :: (1, Value.int .i64 f) :: []) = _
  have z1 : nd0.row = [] ++ (hc zero32 ++ ([.int .i64 0] ++ ([.pointer none, .pointer none] ++ (hc zero32 ++ ([.bool false] ++ (hc zero32 ++ [.int .i64 0, .bool false])))))) := rfl
  rw [z1, fill_at (i := 0) (off := 0) (size := 32) (vs := hc F) rfl rfl rfl rfl (by rw [hc_len, hF])]
  rw [List.nil_append]
  rw [fill_at (i := 1) (off := 32) (size := 1) (vs := [.int .i64 f]) rfl rfl (by rw [hc_len, hF]) rfl rfl]
  simp [Nd.row, Instr.fill]
def K1 : List Int := [1, 0, 0, 0, 0, 0, 0, 0, 0, 0, 0, 0, 0, 0, 0, 0, 0, 0, 0, 0, 0, 0, 0, 0, 0, 0, 0, 0, 0, 0, 0, 0]
def V2 : List Int := [2, 0, 0, 0, 0, 0, 0, 0, 0, 0, 0, 0, 0, 0, 0, 0, 0, 0, 0, 0, 0, 0, 0, 0, 0, 0, 0, 0, 0, 0, 0, 0]
@[go_sem] theorem K1_len : K1.length = 32 := by simp [K1]
@[go_sem] theorem V2_len : V2.length = 32 := by simp [V2]
@[go_sem] theorem Tryd.run_hash1 (w : World) : (rowBuild 24 #[(0, .int .u8 1)]).run Tryd.prog w = .ok (.agg (hc K1).toArray) w := by
  unfold rowBuild; kernel_rfl
@[go_sem] theorem Tryd.run_hash2 (w : World) : (rowBuild 24 #[(0, .int .u8 2)]).run Tryd.prog w = .ok (.agg (hc V2).toArray) w := by
  unfold rowBuild; kernel_rfl

/-! ### A map of one pair -/
/-- The world with another map in a block. -/
def putMap (w : World) (b : Nat) (es : Array MapEntry) (c : Nat) : World := { w with heap := w.heap.setIfInBounds b (.map es c) }
section
variable {P : Program} {w : World} {t k e : TypeId} {b c : Nat} {es : Array MapEntry} {key : Value}
theorem getMap (hb : w.heap[b]? = some (.map es c)) : (getObj b).run P w = .ok (.map es c) w := by simp [getObj, Sem.run, hb]
theorem setMap (o : Obj) (hb : w.heap[b]? = some (.map es c)) : (setObj b o).run P w = .ok () { w with heap := w.heap.setIfInBounds b o } := by simp [setObj, Sem.run, hb]
theorem run_lookup_at {r : Option (Nat × Value)} {z : Value} (ok : Bool) (ht : P.underlying t = some (.map k e)) (hb : w.heap[b]? = some (.map es c)) (hc : (Instr.checkKey es.isEmpty 10000 k key).run P w = .ok () w) (hf : (Instr.findKey k key es.toList).run P w = .ok r w) (hz : (zeroValue e).run P w = .ok z w) :
    (Instr.lookup t (.map (some b)) key ok).run P w = .ok (if ok then .tuple #[(r.map (·.2)).getD z, .bool r.isSome] else (r.map (·.2)).getD z) w := by
  unfold Instr.lookup
  simp only [Sem.run_bind, run_underlying ht, Result.andThen_ok, getMap hb, Sem.run_pure, hc, hf]
  cases r <;> simp [hz]
theorem run_mapUpdate_new {v : Value} (ht : P.underlying t = some (.map k e)) (hb : w.heap[b]? = some (.map es c)) (hc : (Instr.checkKey false 10000 k key).run P w = .ok () w) (hf : (Instr.findKey k key es.toList).run P w = .ok none w) :
    (Instr.mapUpdate t (.map (some b)) key v).run P w = .ok () (putMap w b (es.push { key := key, val := v, born := c }) (c + 1)) := by
  unfold Instr.mapUpdate
  simp only [Sem.run_bind, run_underlying ht, Result.andThen_ok, getMap hb, hc, hf, setMap _ hb]
  rfl
theorem run_delete_at {i : Nat} {v : Value} (ty : TypeId) (ht : P.underlying t = some (.map k e)) (hb : w.heap[b]? = some (.map es c)) (hc : (Instr.checkKey es.isEmpty 10000 k key).run P w = .ok () w) (hf : (Instr.findKey k key es.toList).run P w = .ok (some (i, v)) w) :
    (Builtin.delete_ #[t, k] ty #[.map (some b), key]).run P w = .ok (.tuple #[]) (putMap w b (es.eraseIdxIfInBounds i) c) := by
  simp [Builtin.delete_, run_underlying ht, getMap hb, hc, hf, setMap _ hb, putMap]
theorem run_len_at (ty : TypeId) (ht : P.underlying t = some (.map k e)) (hb : w.heap[b]? = some (.map es c)) :
    (Builtin.len_ #[t] ty #[.map (some b)]).run P w = .ok (.int .i64 es.size) w := by
  simp [Builtin.len_, run_underlying ht, getMap hb, goInt]
end
theorem ck_k1 (x : Bool) (w : World) : (Instr.checkKey x 10000 24 (.agg (hc K1).toArray)).run Tryd.prog w = .ok () w := by cases x <;> kernel_rfl
def M1 (v : Value) : Array MapEntry := #[{ key := .agg (hc K1).toArray, val := v, born := 0 }]
theorem find_k1 (v : Value) (w : World) : (Instr.findKey 24 (.agg (hc K1).toArray) (M1 v).toList).run Tryd.prog w = .ok (some (0, v)) w := by kernel_rfl
section
variable {w : World} {b c : Nat}
theorem look_m0 (ok : Bool) (hb : w.heap[b]? = some (.map #[] c)) : (Instr.lookup 53 (.map (some b)) (.agg (hc K1).toArray) ok).run Tryd.prog w = .ok (if ok then .tuple #[.agg (hc zero32).toArray, .bool false] else .agg (hc zero32).toArray) w :=
  run_lookup_at (r := none) ok Tryd.underlying53 hb (ck_k1 _ w) (by kernel_rfl) (Tryd.zero_hash w)
theorem look_m1 (ok : Bool) {v : Value} (hb : w.heap[b]? = some (.map (M1 v) c)) : (Instr.lookup 53 (.map (some b)) (.agg (hc K1).toArray) ok).run Tryd.prog w = .ok (if ok then .tuple #[v, .bool true] else v) w :=
  run_lookup_at (r := some (0, v)) ok Tryd.underlying53 hb (ck_k1 _ w) (find_k1 v w) (Tryd.zero_hash w)
theorem upd_m0 {v : Value} (hb : w.heap[b]? = some (.map #[] 0)) : (Instr.mapUpdate 53 (.map (some b)) (.agg (hc K1).toArray) v).run Tryd.prog w = .ok () (putMap w b (M1 v) 1) :=
  run_mapUpdate_new Tryd.underlying53 hb (ck_k1 _ w) (by kernel_rfl)
theorem del_m1 {v : Value} (ty : TypeId) (hb : w.heap[b]? = some (.map (M1 v) 1)) : (Builtin.delete_ #[53, 24] ty #[.map (some b), .agg (hc K1).toArray]).run Tryd.prog w = .ok (.tuple #[]) (putMap w b #[] 1) := by
  have h := run_delete_at ty Tryd.underlying53 hb (ck_k1 _ w) (find_k1 v w)
  rw [show (M1 v).eraseIdxIfInBounds 0 = #[] by simp [M1, Array.eraseIdxIfInBounds]] at h
  exact h
end
theorem putMap_size (w : World) (b : Nat) (es : Array MapEntry) (c : Nat) : (putMap w b es c).heap.size = w.heap.size := by simp [putMap]
theorem putMap_there {w : World} {b : Nat} {es : Array MapEntry} {c : Nat} (h : b < w.heap.size) : (putMap w b es c).heap[b]? = some (.map es c) := by simp [putMap, h]
theorem putMap_other {w : World} {b k : Nat} {es : Array MapEntry} {c : Nat} (h : k ≠ b) : (putMap w b es c).heap[k]? = w.heap[k]? := by simp [putMap, Array.getElem?_setIfInBounds_ne (Ne.symm h)]
end Go.Proofs.YtjlodnecdngdfaaDoor
namespace Go.Proofs.YtjlodnecdngdfaaDoor
open Go.ChangeShapes Go.WideShapes Go.ChangeAt Go.RowKit

theorem Tryd.ownNone : ownKnob Tryd.prog.godebug = none := by kernel_rfl
theorem Tryd.laidOutTrue : laidOutB Tryd.prog = true := by kernel_rfl

section
variable {H : Type} {enc : TypeId × Value → H} {P : Program}

theorem post_of_below {f : Func} {s : ChangeSpec} {apart fresh handsOn again : Bool} {W W' : World} {args : Array Value} {v : Value} {ds gs : List (DataW H)} {before pa pv : List MemPlace}
    (hW : DataW.Whole enc P f.params.toList s.vars apart W args.toList ds gs before)
    (hres : ∀ (b : Nat) (sp : Nat → Bool) (hd : Bool), DataW.TrodAll enc P W' b sp hd f.resultTypes.toList (v.resultList f.resultTypes.size) (s.fn H (ds ++ gs)).results [])
    (hargs : ∀ sp : Nat → Bool, (∀ p ∈ before, sp p.block = true) → DataW.TrodAll enc P W' 0 sp true f.params.toList args.toList (s.fn H (ds ++ gs)).args pa)
    (hvars : ∀ sp : Nat → Bool, (∀ p ∈ before, sp p.block = true) → DataW.TrodVars enc P W' sp s.vars (s.fn H (ds ++ gs)).vars pv)
    (hps : before = pa ++ pv) (hb : Below W.heap.size W W')
    (hok : ∀ (j : Nat) (t : TypeId) (r : Value), f.resultTypes[j]? = some t → (v.resultList f.resultTypes.size)[j]? = some r → Value.okWide P W' .any 0 t r) :
    s.post enc P f apart fresh handsOn again W args v W' := by
  have hlt : ∀ p ∈ before, p.block < W.heap.size := fun p hp => hW.lt p hp
  have hold : ∀ p ∈ before, (fun b => decide (b < W.heap.size)) p.block = true := fun p hp => by simpa using hlt p hp
  refine ⟨ds, gs, before, [], pa, pv, hW, hres _ _ _, hargs _ hold, hvars _ hold, World.keptBut_mono (fun p hp => ⟨hp, ?_⟩) (hb.frame (· ∈ before)), fun _ => ?_⟩
  · rw [hps, List.mem_append] at hp
    exact Or.inr hp
  · obtain ⟨_, _, _, _, _, hz, hn⟩ := hW
    refine ⟨hok, _, _, ([] ++ pa) ++ pv, ⟨[] ++ pa, pv, trodAll_append (hargs _ (fun _ _ => rfl)) (hres _ _ _), hvars _ (fun _ _ => rfl), rfl, ?_, ?_⟩, ?_⟩
    · intro b off hp
      have hin : MemPlace.cell b off ∈ before := by rw [hps]; simpa using hp
      rw [hb.frozen (hlt _ hin)]
      exact hz b off hin
    · intro ha
      have := hn ha
      rw [hps] at this
      simpa using this
    · intro p hp _
      rw [hps]
      simpa using hp

theorem trodAll_stays (hl : laidOutB P = true) {W W' : World} {sp' : Nat → Bool} : ∀ (ts : List TypeId) (_ : ts.all (fun t => P.readableRec t && decide (t < P.types.size)) = true) {vs : List Value} {ds : List (DataW H)} {ps : List MemPlace}
    (_ : DataW.TrodAll enc P W 0 (fun _ => true) true ts vs ds ps) (_ : ∀ p ∈ ps, W.sameAt W' p) (_ : ∀ p ∈ ps, sp' p.block = true), DataW.TrodAll enc P W' 0 sp' true ts vs ds ps
  | [], _, vs, ds, ps, h, _, _ => by
    obtain ⟨rfl, rfl, rfl⟩ := trodAll_nil h
    exact trodAll_mk0
  | t :: ts, hr, vs, ds, ps, h, hsame, hs => by
    obtain ⟨v, vs', d, ds', p, q, rfl, rfl, rfl, h1, h2⟩ := trodAll_cons h
    simp only [List.all_cons, Bool.and_eq_true, decide_eq_true_eq] at hr
    exact trodAll_cons_mk (WideElems.Trod_stays hl hr.1.1 hr.1.2 h1 (fun x hx => hsame x (by simp [hx])) (fun x hx => hs x (by simp [hx])))
      (trodAll_stays hl ts hr.2 h2 (fun x hx => hsame x (by simp [hx])) (fun x hx => hs x (by simp [hx])))

/-- A LAW's END: it answers true, and of what there was nothing has turned. -/
theorem law_post {f : Func} {s : ChangeSpec} {tb : TypeId} {W W' : World} {args : Array Value} {ds gs : List (DataW H)} {before : List MemPlace} (hl : laidOutB P = true)
    (hW : DataW.Whole enc P f.params.toList s.vars false W args.toList ds gs before) (hvars : s.vars = []) (hpar : f.params.toList.all (fun t => P.readableRec t && decide (t < P.types.size)) = true)
    (hrt : f.resultTypes = #[tb]) (htb : P.underlying tb = some .bool) (hres : (s.fn H ds).results = [.lit (.bool true)]) (hargs : (s.fn H ds).args = ds) (hvs : (s.fn H ds).vars = [])
    (hb : Below W.heap.size W W') : s.post enc P f false true false false W args (.bool true) W' := by
  have hW' := hW
  have hlt : ∀ p ∈ before, p.block < W.heap.size := fun p hp => hW.lt p hp
  obtain ⟨p, q, hA, hV, rfl, hfz, hnd⟩ := hW
  rw [hvars] at hV
  obtain ⟨rfl, rfl⟩ := trodVars_none hV
  refine post_of_below (pa := p) (pv := []) hW' ?_ ?_ ?_ rfl hb ?_
  · intro b sp hd
    rw [List.append_nil, hres, hrt]
    exact trodAll_mk1 (shut_bool htb true)
  · intro sp hsp
    rw [List.append_nil, hargs]
    exact trodAll_stays hl _ hpar hA (fun x hx => hb.same (hlt x (by simp [hx]))) (fun x hx => hsp x (by simp [hx]))
  · intro sp hsp
    rw [List.append_nil, hvs, hvars]
    rfl
  · exact ok_one hrt rfl (okWide_bool_mk htb true)
end
end Go.Proofs.YtjlodnecdngdfaaDoor
namespace Go.Proofs.YtjlodnecdngdfaaDoor
open Go.RowKit
open Go.Maps (Keyed)
set_option maxRecDepth 100000

theorem mapM_optS {α β : Type} {f : α → Option β} {g : α → β} : ∀ l : List α, (∀ x ∈ l, f x = some (g x)) → l.mapM f = some (l.map g)
  | [], _ => rfl
  | x :: l, h => by rw [List.mapM_cons, h x (by simp), mapM_optS l (fun y hy => h y (by simp [hy]))]; rfl
theorem Tryd.keyRowS : (24 : TypeId) < Tryd.prog.types.size := of_decide_eq_true (by kernel_rfl)
theorem Tryd.hashLawS : WideMaps.KeyLaw Tryd.prog 24 := deep_law_laid Tryd.laidOutTrue (m := 2) (by omega) Tryd.keyRowS (by kernel_rfl) (by rw [Tryd.underlying24])
theorem Tryd.hashKeyedS : Keyed Tryd.prog 24 := Keyed.of_law Tryd.hashLawS
theorem u8_wfS {x : Int} (h : 0 ≤ x ∧ x < 256) : (Lit.int .u8 x).wf = true := by
  have : 0 ≤ x ∧ x ≤ 255 := by omega
  simpa [Lit.wf, IntKind.min, IntKind.max, IntKind.signed, IntKind.bits] using this
theorem Tryd.hash_keyS {F : List Int} (hF : F.length = 32) (bF : Bytes F) : ∃ kl, keyOf Tryd.prog 24 (.agg (hc F).toArray) = some kl := by
  have hsz : Tryd.prog.types.size = (Tryd.prog.types.size - 1) + 1 := by kernel_rfl
  have hl : (hc F).length = 32 := by rw [hc_len, hF]
  have hfm : (Value.agg (hc F).toArray).formed Tryd.prog 24 = true := by
    simp [Value.formed, Tryd.underlying24, show Tryd.prog.cellsOf 24 = 32 by kernel_rfl, hl]
  have hlit : Tryd.prog.keyLits (Tryd.prog.types.size + 1) 24 (hc F) = some (((List.range 32).map fun i => [Lit.int .u8 (F.getD i 0)]).flatten) := by
    unfold Program.keyLits
    simp only [Tryd.underlying24, show Tryd.prog.cellsOf 24 = 32 by kernel_rfl, show Tryd.prog.cellsOf 5 = 1 by kernel_rfl, hl, if_true, Nat.mul_one]
    rw [mapM_optS (g := fun i => [Lit.int .u8 (F.getD i 0)])]
    · rfl
    · intro i hi
      have hi' : i < 32 := by simpa using hi
      have e : ((hc F).drop i).take 1 = [.int .u8 (F.getD i 0)] := by
        apply List.ext_getElem?
        intro j
        rcases j with _ | j
        · simp [hc, List.getD, hF, hi']
        · rw [List.getElem?_eq_none (by simp; omega)]; simp
      rw [e, hsz]
      unfold Program.keyLits
      simp only [Tryd.underlying5]
      have hb := bF (F.getD i 0) (by simp [List.getD, hF, hi'])
      rw [show F.getD i 0 = F[i]?.getD 0 by simp [List.getD]] at hb ⊢
      simp [u8_wfS hb]
  refine ⟨.string (keyBytes (((List.range 32).map fun i => [Lit.int .u8 (F.getD i 0)]).flatten)), ?_⟩
  unfold keyOf
  simp only [Tryd.underlying24, hfm, show Tryd.prog.keyType 24 = true by kernel_rfl, Bool.and_self, if_true]
  rw [show (Value.agg (hc F).toArray).cells.toList = hc F by simp [Value.cells], hlit]
  rfl
/-- An entry: key, value, when it came. -/
structure En where
  k : List Int
  v : List Int
  b : Nat
def En.me (e : En) : MapEntry := { key := .agg (hc e.k).toArray, val := .agg (hc e.v).toArray, born := e.b }
def mes (E : List En) : Array MapEntry := (E.map En.me).toArray
def EnOk (E : List En) : Prop := ∀ e ∈ E, e.k.length = 32 ∧ e.v.length = 32
def fndE (K : List Int) : List En → Nat → Option (Nat × List Int)
  | [], _ => none
  | e :: E, i => if K = e.k then some (i, e.v) else fndE K E (i + 1)
/-- The value under a key; zero where there is none. -/
def vOf (E : List En) (K : List Int) : List Int := ((fndE K E 0).map (·.2)).getD zero32
def hv (o : Option (Nat × List Int)) : Option (Nat × Value) := o.map fun x => (x.1, .agg (hc x.2).toArray)
theorem len32 {W : List Int} (h : W.length = 32) : ∃ a0 a1 a2 a3 a4 a5 a6 a7 a8 a9 a10 a11 a12 a13 a14 a15 a16 a17 a18 a19 a20 a21 a22 a23 a24 a25 a26 a27 a28 a29 a30 a31, W = [a0, a1, a2, a3, a4, a5, a6, a7, a8, a9, a10, a11, a12, a13, a14, a15, a16, a17, a18, a19, a20, a21, a22, a23, a24, a25, a26, a27, a28, a29, a30, a31] := by
  match W, h with
  | [a0, a1, a2, a3, a4, a5, a6, a7, a8, a9, a10, a11, a12, a13, a14, a15, a16, a17, a18, a19, a20, a21, a22, a23, a24, a25, a26, a27, a28, a29, a30, a31], _ => exact ⟨a0, a1, a2, a3, a4, a5, a6, a7, a8, a9, a10, a11, a12, a13, a14, a15, a16, a17, a18, a19, a20, a21, a22, a23, a24, a25, a26, a27, a28, a29, a30, a31, rfl⟩
theorem map_er {α β : Type} (f : α → β) : ∀ (l : List α) (i : Nat), (l.map f).eraseIdx i = (l.eraseIdx i).map f
  | [], _ => rfl
  | _ :: _, 0 => rfl
  | a :: l, i + 1 => by simp [List.eraseIdx, map_er f l i]
theorem ck_any {K : List Int} (h : K.length = 32) (b : Bool) (w : World) : (Instr.checkKey b 10000 24 (.agg (hc K).toArray)).run Tryd.prog w = .ok () w := by
  obtain ⟨a0, a1, a2, a3, a4, a5, a6, a7, a8, a9, a10, a11, a12, a13, a14, a15, a16, a17, a18, a19, a20, a21, a22, a23, a24, a25, a26, a27, a28, a29, a30, a31, rfl⟩ := len32 h
  cases b <;> kernel_rfl
theorem ask_any {K : List Int} (hK : K.length = 32) (w : World) : ∀ (E : List En) (i : Nat), EnOk E → (Instr.findAsking 24 (.agg (hc K).toArray) (E.map En.me) i).run Tryd.prog w = .ok (hv (fndE K E i)) w
  | [], _, _ => rfl
  | e :: E, i, h => by
    have he := (h e (by simp)).1
    have hq : (Op.equal 24 (.agg (hc K).toArray) (.agg (hc e.k).toArray)).run Tryd.prog w = .ok (K == e.k) w := Tryd.eq_hash w K e.k hK he
    rw [List.map_cons, Instr.findAsking]
    simp only [Sem.run_bind, En.me, hq, Result.andThen_ok]
    unfold fndE
    by_cases hk : K = e.k
    · rw [if_pos hk, beq_iff_eq.2 hk]
      rfl
    · rw [if_neg hk, beq_eq_false_iff_ne.2 hk]
      exact ask_any hK w E (i + 1) (fun x hx => h x (by simp [hx]))
theorem find_any {K : List Int} (hK : K.length = 32) (w : World) {E : List En} (h : EnOk E) : (Instr.findKey 24 (.agg (hc K).toArray) (mes E).toList).run Tryd.prog w = .ok (hv (fndE K E 0)) w := by
  unfold Instr.findKey
  simp only [Sem.run_bind, run_underlying Tryd.underlying24, Result.andThen_ok]
  cases E with
  | nil => rfl
  | cons e E =>
    have e1 : ∀ td, Instr.findNow (.array 32 td) (.agg (hc K).toArray) (mes (e :: E)).toList 0 = none := fun td => rfl
    have := ask_any hK w (e :: E) 0 h
    exact this
section
variable {w : World} {b c : Nat} {E : List En} {K : List Int}
theorem look_any (ok : Bool) (hb : w.heap[b]? = some (.map (mes E) c)) (h : EnOk E) (hK : K.length = 32) : (Instr.lookup 53 (.map (some b)) (.agg (hc K).toArray) ok).run Tryd.prog w = .ok (if ok then .tuple #[.agg (hc (vOf E K)).toArray, .bool (fndE K E 0).isSome] else .agg (hc (vOf E K)).toArray) w := by
  have := run_lookup_at (r := hv (fndE K E 0)) ok Tryd.underlying53 hb (ck_any hK _ w) (find_any hK w h) (Tryd.zero_hash w)
  rw [this]
  unfold vOf hv
  cases fndE K E 0 <;> rfl
theorem upd_new {V : List Int} (hb : w.heap[b]? = some (.map (mes E) c)) (h : EnOk E) (hK : K.length = 32) (hn : fndE K E 0 = none) : (Instr.mapUpdate 53 (.map (some b)) (.agg (hc K).toArray) (.agg (hc V).toArray)).run Tryd.prog w = .ok () (putMap w b (mes (E ++ [⟨K, V, c⟩])) (c + 1)) := by
  have := run_mapUpdate_new (v := .agg (hc V).toArray) Tryd.underlying53 hb (ck_any hK _ w) (by have := find_any hK w h; rw [hn] at this; exact this)
  rw [this]
  congr 2
  simp [mes, En.me]
theorem del_any (ty : TypeId) {i : Nat} {V : List Int} (hb : w.heap[b]? = some (.map (mes E) c)) (h : EnOk E) (hK : K.length = 32) (hs : fndE K E 0 = some (i, V)) : (Builtin.delete_ #[53, 24] ty #[.map (some b), .agg (hc K).toArray]).run Tryd.prog w = .ok (.tuple #[]) (putMap w b (mes (E.eraseIdx i)) c) := by
  have := run_delete_at ty Tryd.underlying53 hb (ck_any hK _ w) (by have := find_any hK w h; rw [hs] at this; exact this)
  rw [this]
  congr 2
  simp [mes, map_er]
theorem fnd_spec : ∀ {E : List En} {j i : Nat} {V : List Int}, fndE K E j = some (i, V) → ∃ n e, i = j + n ∧ E[n]? = some e ∧ e.k = K ∧ e.v = V
  | [], _, _, _, h => by cases h
  | e :: E, j, i, V, h => by
    unfold fndE at h
    by_cases hk : K = e.k
    · rw [if_pos hk] at h
      simp only [Option.some.injEq, Prod.mk.injEq] at h
      obtain ⟨rfl, rfl⟩ := h
      exact ⟨0, e, rfl, rfl, hk.symm, rfl⟩
    · rw [if_neg hk] at h
      obtain ⟨n, e', h1, h2, h3, h4⟩ := fnd_spec h
      exact ⟨n + 1, e', by omega, by simpa using h2, h3, h4⟩
theorem upd_old {V V0 : List Int} {i : Nat} (hb : w.heap[b]? = some (.map (mes E) c)) (h : EnOk E) (hK : K.length = 32) (bK : Bytes K) (hn : fndE K E 0 = some (i, V0)) : (Instr.mapUpdate 53 (.map (some b)) (.agg (hc K).toArray) (.agg (hc V).toArray)).run Tryd.prog w = .ok () (putMap w b (mes (E.modify i fun e => { e with v := V })) c) := by
  obtain ⟨kl, hkl⟩ := Tryd.hash_keyS hK bK
  have hst := Tryd.hashKeyedS.stays w hkl
  have hf := find_any hK w h
  rw [hn] at hf
  obtain ⟨n, e, h1, h2, h3, h4⟩ := fnd_spec hn
  obtain rfl : i = n := by omega
  have hel : (mes E)[i]? = some e.me := by simp [mes, h2]
  have hke : ((((mes E)[i]?).map (·.key)).getD (Value.agg (hc K).toArray)) = .agg (hc K).toArray := by
    rw [hel]
    show Value.agg (hc e.k).toArray = _
    rw [h3]
  unfold Instr.mapUpdate
  simp only [Sem.run_bind, run_underlying Tryd.underlying53, Result.andThen_ok, getMap hb, ck_any hK, hf, hv, Option.map_some, hke, hst, setMap _ hb]
  have hmod : ∀ (l : List En) (n : Nat), (∀ x, l[n]? = some x → x.k = K) → (l.map En.me).modify n (fun x => { x with key := .agg (hc K).toArray, val := .agg (hc V).toArray }) = (l.modify n fun x => { x with v := V }).map En.me := by
    intro l
    induction l with
    | nil => intro n _; cases n <;> rfl
    | cons x l ih =>
      intro n hx
      cases n with
      | zero =>
        have hxk := hx x rfl
        simp [List.modify, En.me, hxk]
      | succ n => rw [List.map_cons, List.modify_succ_cons, List.modify_succ_cons, List.map_cons, ih n (fun y hy => hx y (by simpa using hy))]
  have := hmod E i (fun x hx => by rw [h2] at hx; rw [← Option.some.inj hx]; exact h3)
  have hE : (mes E).modify i (fun x => { x with key := .agg (hc K).toArray, val := .agg (hc V).toArray }) = mes (E.modify i fun x => { x with v := V }) := by
    unfold mes
    apply Array.ext'
    simpa [Array.toList_modify] using this
  unfold putMap
  rw [← hE]
end
end Go.Proofs.YtjlodnecdngdfaaDoor
namespace Go.Proofs.YtjlodnecdngdfaaDoor
open Go.RowKit
set_option maxRecDepth 100000

set_option maxHeartbeats 2000000 in
theorem made_yes {w : World} {p m : Nat} (h : w.cell? ⟨p, 0, none⟩ = some (.map (some m))) : Calls Tryd.prog 32 #[.pointer (some ⟨p, 0, none⟩)] w fun e w' => e = .returned (.bool true) ∧ w' = w := by
  have hm : ∀ w : World, (binOp BinOp.neq 53 (.map (some m)) (.map none)).run Tryd.prog w = .ok (.bool true) w := fun w => by kernel_rfl
  go_enter Tryd.func32, Tryd.ntmps32
  go_wp2_with fail
  go_ret
  exact ⟨rfl, rfl⟩
theorem and_one {x : Nat} (hx : x < 9223372036854775808) : bits .and .i64 (x : Int) 1 = ((x % 2 : Nat) : Int) := by
  have h1 : (BitVec.ofInt 64 (x : Int)).toNat = x := by
    rw [BitVec.ofInt_natCast, BitVec.toNat_ofNat]; exact Nat.mod_eq_of_lt (by omega)
  have h2 : (BitVec.ofInt 64 (1 : Int)).toNat = 1 := by decide
  show IntKind.i64.wrap ((BitVec.ofInt 64 (x : Int) &&& BitVec.ofInt 64 (1 : Int)).toNat : Int) = _
  rw [BitVec.toNat_and, h1, h2, Nat.and_one_is_mod]
  exact IntWalk.i64_in _ (by omega)
set_option maxHeartbeats 2000000 in
theorem bit_any {w : World} {K : List Int} {i : Nat} (hK : K.length = 32) (bK : Bytes K) (hi : i < 256) : Calls Tryd.prog 45 #[.agg (hc K).toArray, .int .i64 i] w fun e w' => e = .returned (.int .i64 (bitI K i)) ∧ Below w.heap.size w w' := by
  have H0 := HashAt.new w K
  have B0 := Lib.hid ((Below.refl w.heap.size w).alloc (Nat.le_refl _) (.cells (hc K).toArray 24))
  have hc0 := H0.cell (i := i / 8) (by omega)
  have hb := bK.getD (i / 8)
  obtain ⟨x, hx⟩ : ∃ x : Nat, K.getD (i / 8) 0 = (x : Int) := ⟨(K.getD (i / 8) 0).toNat, by omega⟩
  have hR : Hid (bitI K i = ((x / 2 ^ (7 - i % 8) : Nat) : Int) % 2) := by
    show bitI K i = _
    unfold bitI
    rw [hx, Int.natCast_ediv, Int.natCast_pow]
    rfl
  rw [hx] at hc0 hb
  clear hx bK
  have e1 : ((i : Nat) : Int).tdiv 8 = ((i / 8 : Nat) : Int) := by
    rw [Int.tdiv_eq_ediv_of_nonneg (by omega)]; omega
  have e2 : ((i : Nat) : Int).tmod 8 = ((i % 8 : Nat) : Int) := by
    rw [Int.tmod_eq_emod_of_nonneg (by omega)]; omega
  have hlK := hc_len K
  have hs : x / 2 ^ (7 - i % 8) ≤ x := Nat.div_le_self _ _
  have hd : ((x : Int) / 2 ^ (7 - i % 8)) = ((x / 2 ^ (7 - i % 8) : Nat) : Int) := by rw [Int.natCast_ediv, Int.natCast_pow]; rfl
  generalize x / 2 ^ (7 - i % 8) = y at hs hd hR
  have e3 : wrap64 ((x : Int) / 2 ^ (7 - i % 8)) = (y : Int) := by
    rw [hd]
    unfold wrap64
    omega
  have e4 := and_one (x := y) (by omega)
  clear hd
  go_enter Tryd.func45, Tryd.ntmps45
  go_wp2_with fail
  go_ret
  exact ⟨by rw [hR.out]; rfl, B0.out⟩
end Go.Proofs.YtjlodnecdngdfaaDoor
namespace Go.Proofs.YtjlodnecdngdfaaDoor
open Go.RowKit
set_option maxRecDepth 100000

/-- A map of the pair K1, V, whose node is n: what its reckoning may have changed. -/
structure HrS (w W : World) (p m b c : Nat) (n : Nd) (V : List Int) : Prop where
  chg : Chg w W [b]
  cell : W.cell? ⟨p, 0, none⟩ = some (.map (some m))
  mp : W.heap[m]? = some (.map (M1 (.agg (hc V).toArray)) c)
  nd : ∃ F, F.length = 32 ∧ NdB W b { n with own := F }
section
variable {w W W' : World} {p m b c : Nat} {n : Nd} {V : List Int}
theorem HrS.on (h : HrS w W p m b c n V) (hb : Below W.heap.size W W') : HrS w W' p m b c n V := by
  refine ⟨h.chg.trans (T := []) (Chg.below hb (Nat.le_refl _) []) (by simp), ?_, ?_, ?_⟩
  · rw [hb.cell (World.block_lt_of_cell? W _ h.cell)]; exact h.cell
  · rw [hb.block m (Array.getElem?_eq_some_iff.1 h.mp).1]; exact h.mp
  · obtain ⟨F, hF, hN⟩ := h.nd
    exact ⟨F, hF, hN.on hb⟩
theorem HrS.drew (h : HrS w W p m b c n V) : HrS w W.drew p m b c n V := h.on ((Below.refl _ _).drew)
theorem HrS.alloc (h : HrS w W p m b c n V) (o : Obj) : HrS w (W.alloc o) p m b c n V := h.on ((Below.refl _ _).alloc (Nat.le_refl _) o)
theorem HrS.key (h : HrS w W p m b c n V) (ok : n.ok) : rowOf W b 0 32 = hc n.key := by
  obtain ⟨F, hF, hN⟩ := h.nd
  exact (hN.facts ⟨ok.key, hF, ok.high⟩).2.2.2.2.2.2.1
theorem HrS.fork (h : HrS w W p m b c n V) (ok : n.ok) : W.cell? ⟨b, 32, none⟩ = some (.int .i64 n.fork) := by
  obtain ⟨F, hF, hN⟩ := h.nd
  exact (hN.facts ⟨ok.key, hF, ok.high⟩).1
theorem HrS.there (h : HrS w W p m b c n V) (ok : n.ok) {i k : Nat} (hi : i + k ≤ 102) : W.there b i k := by
  obtain ⟨F, hF, hN⟩ := h.nd
  exact hN.there ⟨ok.key, hF, ok.high⟩ hi
theorem HrS.setOwn (h : HrS w W p m b c n V) (ok : n.ok) (hp : p ≠ b) (hm : m ≠ b) {G : List Int} (hG : G.length = 32) : HrS w (W.setCells b 35 (hc G)) p m b c n V ∧ NdB (W.setCells b 35 (hc G)) b { n with own := G } := by
  obtain ⟨F, hF, hN⟩ := h.nd
  have hN2 := hN.setOwn ⟨ok.key, hF, ok.high⟩ hG
  have hcg : Chg W (W.setCells b 35 (hc G)) [b] := by
    have hsz := size_setCells b (hc G) 35 W
    have hbw := below_setCells' (B := b) b (Nat.le_refl _) (hc G) 35 (Below.refl b W)
    exact ⟨hbw.os, hbw.tape, hbw.output, by rw [hsz]; exact Nat.le_refl _, fun k _ hk => setCells_other (fun e => hk (by simp [e])) _ _ _⟩
  refine ⟨⟨h.chg.trans hcg (fun x hx _ => hx), ?_, ?_, G, hG, hN2⟩, hN2⟩
  · rw [World.cell?_of_block (w := W) (setCells_other hp _ _ _)]; exact h.cell
  · rw [setCells_other hm]; exact h.mp
end

theorem Chg.setCells {a w : World} {S : List Nat} (h : Chg a w S) {b : Nat} (hp : b ∈ S ∨ a.heap.size ≤ b) (vs : List Value) (o : Nat) : Chg a (w.setCells b o vs) S := by
  have hbw := below_setCells' (B := b) b (Nat.le_refl _) vs o (Below.refl b w)
  have hsz := size_setCells b vs o w
  refine h.trans (T := [b]) ⟨hbw.os, hbw.tape, hbw.output, by rw [hsz]; exact Nat.le_refl _, fun k _ hk => setCells_other (fun e => hk (by simp [e])) _ _ _⟩ ?_
  intro x hx hl
  obtain rfl := List.mem_singleton.1 hx
  rcases hp with hp | hp
  · exact hp
  · omega

set_option maxHeartbeats 8000000 in
theorem here_leaf {w : World} {p m b c : Nat} {n : Nd} {V : List Int} (hT : Tbl w) (ok : n.ok) (hk : n.key = K1) (bK : Bytes K1) (hV : V.length = 32) (bV : Bytes V) (hf : n.fork = 256) (ht : n.told = false) (hn : NdB w b n) (hp : w.cell? ⟨p, 0, none⟩ = some (.map (some m))) (hm : w.heap[m]? = some (.map (M1 (.agg (hc V).toArray)) c)) (hpb : p ≠ b) (hmb : m ≠ b) (hgb : 1 ∉ [b]) :
    Calls Tryd.prog 60 #[.pointer (some ⟨p, 0, none⟩), .pointer (some ⟨b, 0, none⟩)] w fun e w' => e = .returned (.agg (hc (lfH K1 V)).toArray) ∧ Chg w w' [b] ∧ NdB w' b { n with own := lfH K1 V, told := true } := by
  have hp1 : (w.alloc (.cells (hc zero32).toArray 24)).cell? ⟨p, 0, none⟩ = some (.map (some m)) := by
    rw [World.cell?_of_block (w := w) (Below.heap_alloc _ _ _ (World.block_lt_of_cell? w _ hp))]; exact hp
  have hm1 : (w.alloc (.cells (hc zero32).toArray 24)).heap[m]? = some (.map (M1 (.agg (hc V).toArray)) c) := by
    rw [Below.heap_alloc _ _ _ (Array.getElem?_eq_some_iff.1 hm).1]; exact hm
  have H0 : HrS (w.alloc (.cells (hc zero32).toArray 24)) (w.alloc (.cells (hc zero32).toArray 24)) p m b c n V := ⟨Chg.refl _ _, hp1, hm1, n.own, ok.own, hn.alloc _⟩
  have HH := Lib.hid H0
  have HZ := Lib.hid (HashAt.new w zero32)
  have B0 := Lib.hid ((Below.refl w.heap.size w).alloc (Nat.le_refl _) (.cells (hc zero32).toArray 24))
  have fk := HH.out.fork ok
  rw [hf] at fk
  have tl : (w.alloc (.cells (hc zero32).toArray 24)).cell? ⟨b, 67, none⟩ = some (.bool false) := by
    have h := ((hn.alloc (.cells (hc zero32).toArray 24)).facts ok).2.2.2.1
    rw [ht] at h; exact h
  have HT := Lib.hid (hT.on B0.out hT.pos)
  have OK := Lib.hid ok
  have HK := Lib.hid hk
  have BV := Lib.hid bV
  have BK := Lib.hid bK
  have HV := Lib.hid hV
  have hbw : b < w.heap.size := hn.lt
  clear hT hk bV bK hV hn hp hm H0 hf ht hp1 hm1
  go_enter Tryd.func60, Tryd.ntmps60
  go_wp2_with fail
  generalize w.alloc (.cells (hc zero32).toArray 24) = w1 at *
  refine wp_region_held_drew (S := fun W => HrS w1 W p m b c n V) (by kernel_rfl) (HH.out.drew) (fun h0 => ?_)
  refine wpAnyH_take (i := 0) (v := ?_) (by rw [List.getElem?_toArray]; rfl) (by kernel_rfl) (by kernel_rfl) (by kernel_rfl) (by exact fun _ _ _ h => h) (Or.inl ⟨by rfl, ?_⟩) h0 ?_
  rotate_left
  · intro W hW
    go_simp
    all_goals with_reducible rfl
  try simp only [Act.put, List.setIfInBounds_toArray, List.set_cons_zero, List.set_cons_succ]
  refine wpAnyH_take (i := 1) (v := ?_) (by rw [List.getElem?_toArray]; rfl) (by kernel_rfl) (by kernel_rfl) (by kernel_rfl) (by exact fun _ _ _ h => h) (Or.inl ⟨by rfl, ?_⟩) h0 ?_
  rotate_left
  · intro W hW
    go_simp
    all_goals with_reducible rfl
  try simp only [Act.put, List.setIfInBounds_toArray, List.set_cons_zero, List.set_cons_succ]
  refine wpAnyH_take (i := 2) (v := ?_) (by rw [List.getElem?_toArray]; rfl) (by kernel_rfl) (by kernel_rfl) (by kernel_rfl) (by exact fun _ _ _ h => h) (Or.inl ⟨by rfl, ?_⟩) h0 ?_
  rotate_left
  · intro W hW
    go_simp
    all_goals with_reducible rfl
  try simp only [Act.put, List.setIfInBounds_toArray, List.set_cons_zero, List.set_cons_succ]
  refine wpAnyH_take (i := 3) (v := ?_) (by rw [List.getElem?_toArray]; rfl) (by kernel_rfl) (by kernel_rfl) (by kernel_rfl) (by exact fun _ _ _ h => h) (Or.inl ⟨by rfl, ?_⟩) h0 ?_
  rotate_left
  · intro W hW
    go_simp
    all_goals with_reducible rfl
  try simp only [Act.put, List.setIfInBounds_toArray, List.set_cons_zero, List.set_cons_succ]
  refine wpAnyH_take (i := 4) (v := ?_) (by rw [List.getElem?_toArray]; rfl) (by kernel_rfl) (by kernel_rfl) (by kernel_rfl) (by exact fun _ _ _ h => h) (Or.inl ⟨by rfl, ?_⟩) h0 ?_
  rotate_left
  · intro W hW
    have hky := (hW.key OK.out)
    rw [HK.out] at hky
    have hlk := hc_len K1
    have k32 := K1_len
    go_simp
    all_goals with_reducible rfl
  try simp only [Act.put, List.setIfInBounds_toArray, List.set_cons_zero, List.set_cons_succ]
  refine wpAnyH_take (i := 5) (v := ?_) (by rw [List.getElem?_toArray]; rfl) (by kernel_rfl) (by kernel_rfl) (by kernel_rfl) (by exact fun _ _ _ h => h) (Or.inl ⟨by rfl, ?_⟩) h0 ?_
  rotate_left
  · intro W hW
    go_simp
    all_goals with_reducible rfl
  try simp only [Act.put, List.setIfInBounds_toArray, List.set_cons_zero, List.set_cons_succ]
  refine wpAnyH_take (i := 6) (v := ?_) (by rw [List.getElem?_toArray]; rfl) (by kernel_rfl) (by kernel_rfl) (by kernel_rfl) (by exact fun _ _ _ h => h) (Or.inl ⟨by rfl, ?_⟩) h0 ?_
  rotate_left
  · intro W hW
    go_simp
    all_goals with_reducible rfl
  try simp only [Act.put, List.setIfInBounds_toArray, List.set_cons_zero, List.set_cons_succ]
  refine wpAnyH_take (i := 7) (v := ?_) (by rw [List.getElem?_toArray]; rfl) (by kernel_rfl) (by kernel_rfl) (by kernel_rfl) (by exact fun _ _ _ h => h) (Or.inl ⟨by rfl, ?_⟩) h0 ?_
  rotate_left
  · intro W hW
    go_simp
    all_goals with_reducible rfl
  try simp only [Act.put, List.setIfInBounds_toArray, List.set_cons_zero, List.set_cons_succ]
  refine wpAnyH_take (i := 8) (v := ?_) (by rw [List.getElem?_toArray]; rfl) (by kernel_rfl) (by kernel_rfl) (by kernel_rfl) (by exact fun _ _ _ h => h) (Or.inl ⟨by rfl, ?_⟩) h0 ?_
  rotate_left
  · intro W hW
    have hcl := hW.cell
    go_simp
    all_goals with_reducible rfl
  try simp only [Act.put, List.setIfInBounds_toArray, List.set_cons_zero, List.set_cons_succ]
  refine wpAnyH_take (i := 9) (v := ?_) (by rw [List.getElem?_toArray]; rfl) (by kernel_rfl) (by kernel_rfl) (by kernel_rfl) (by exact fun _ _ _ h => h) (Or.inl ⟨by rfl, ?_⟩) h0 ?_
  rotate_left
  · intro W hW
    go_simp
    all_goals with_reducible rfl
  try simp only [Act.put, List.setIfInBounds_toArray, List.set_cons_zero, List.set_cons_succ]
  refine wpAnyH_take (i := 10) (v := ?_) (by rw [List.getElem?_toArray]; rfl) (by kernel_rfl) (by kernel_rfl) (by kernel_rfl) (by exact fun _ _ _ h => h) (Or.inl ⟨by rfl, ?_⟩) h0 ?_
  rotate_left
  · intro W hW
    go_simp
    all_goals with_reducible rfl
  try simp only [Act.put, List.setIfInBounds_toArray, List.set_cons_zero, List.set_cons_succ]
  refine wpAnyH_take (i := 11) (v := ?_) (by rw [List.getElem?_toArray]; rfl) (by kernel_rfl) (by kernel_rfl) (by kernel_rfl) (by exact fun _ _ _ h => h) (Or.inl ⟨by rfl, ?_⟩) h0 ?_
  rotate_left
  · intro W hW
    go_simp
    all_goals with_reducible rfl
  try simp only [Act.put, List.setIfInBounds_toArray, List.set_cons_zero, List.set_cons_succ]
  refine wpAnyH_take (i := 12) (v := ?_) (by rw [List.getElem?_toArray]; rfl) (by kernel_rfl) (by kernel_rfl) (by kernel_rfl) (by exact fun _ _ _ h => h) (Or.inl ⟨by rfl, ?_⟩) h0 ?_
  rotate_left
  · intro W hW
    have hky := (hW.key OK.out)
    rw [HK.out] at hky
    have hlk := hc_len K1
    have k32 := K1_len
    go_simp
    all_goals with_reducible rfl
  try simp only [Act.put, List.setIfInBounds_toArray, List.set_cons_zero, List.set_cons_succ]
  refine wpAnyH_take (i := 13) (v := ?_) (by rw [List.getElem?_toArray]; rfl) (by kernel_rfl) (by kernel_rfl) (by kernel_rfl) (by exact fun _ _ _ h => h) (Or.inl ⟨by rfl, ?_⟩) h0 ?_
  rotate_left
  · intro W hW
    have hlo := look_m1 false hW.mp
    go_simp
    all_goals with_reducible rfl
  try simp only [Act.put, List.setIfInBounds_toArray, List.set_cons_zero, List.set_cons_succ]
  refine wpAnyH_ready (rs := [14]) (by kernel_rfl) (by simp) ?_
  refine AllReadyH.cons (by rw [List.getElem?_toArray]; rfl) (fun K hK => ?_) AllReadyH.nil
  rw [if_pos (by rfl)]
  go_wp2_with fail
  refine (Leaf_any (HT.out.chg h0.chg hgb) K1_len HV.out BK.out BV.out).mono ?_
  rintro e w3 ⟨rfl, hb3⟩
  have H3 := Lib.hid (h0.on hb3)
  have hlF := lfH_len K1 V
  generalize hF : lfH K1 V = F at *
  go_wp2_with fail
  refine hK.out _ _ (H3.out) (fun h3 => ?_)
  clear hK K
  try simp only [Act.put, List.setIfInBounds_toArray, List.set_cons_zero, List.set_cons_succ]
  refine wpAnyH_take (i := 15) (v := ?_) (by rw [List.getElem?_toArray]; rfl) (by kernel_rfl) (by kernel_rfl) (by kernel_rfl) (by exact fun _ _ _ h => h) (Or.inl ⟨by rfl, ?_⟩) h3 ?_
  rotate_left
  · intro W hW
    go_simp
    all_goals with_reducible rfl
  try simp only [Act.put, List.setIfInBounds_toArray, List.set_cons_zero, List.set_cons_succ]
  refine wpAnyH_take (i := 16) (v := ?_) (by rw [List.getElem?_toArray]; rfl) (by kernel_rfl) (by kernel_rfl) (by kernel_rfl) (by exact fun _ _ _ h => h) (Or.inl ⟨by rfl, ?_⟩) h3 ?_
  rotate_left
  · intro W hW
    go_simp
    all_goals with_reducible rfl
  try simp only [Act.put, List.setIfInBounds_toArray, List.set_cons_zero, List.set_cons_succ]
  refine wpAnyH_ready (rs := [17]) (by kernel_rfl) (by simp) ?_
  refine AllReadyH.cons (by rw [List.getElem?_toArray]; rfl) (fun K hK => ?_) AllReadyH.nil
  rw [if_pos (by rfl)]
  have hth3 := h3.there OK.out (i := 35) (k := 32) (by omega)
  obtain ⟨H5, N5⟩ := h3.setOwn OK.out hpb hmb hlF
  have H5 := Lib.hid H5
  have N5 := Lib.hid N5
  go_wp2_with fail
  refine hK.out _ _ (H5.out) (fun h5 => ?_)
  clear hK K
  try simp only [Act.put, List.setIfInBounds_toArray, List.set_cons_zero, List.set_cons_succ]
  refine wpAnyH_done (by kernel_rfl) ?_ _
  have Z5 := Lib.hid (HZ.out.chg H5.out.chg (by simp; omega))
  have C5 := Lib.hid ((Chg.below B0.out (Nat.le_refl _) [b]).trans H5.out.chg (fun x hx _ => hx))
  have ok5 : Nd.ok { n with own := F } := ⟨OK.out.key, hlF, OK.out.high⟩
  have t5 := (N5.out.facts ok5).2.2.2.1
  have u5 := N5.out.free 67
  have N6 := Lib.hid (N5.out.setTold ok5 true)
  have C6 := Lib.hid (C5.out.setCell (p := ⟨b, 67, none⟩) (.inl (by simp)) (.bool true))
  have Z6 := Lib.hid (Z5.out.other (a := ⟨b, 67, none⟩) (by simp; omega) (.bool true))
  have ok6 : Nd.ok { n with own := F, told := true } := ⟨OK.out.key, hlF, OK.out.high⟩
  have r6 := (N6.out.facts ok6).2.2.2.2.2.2.2.1
  have z6 := Z6.out.there zero32_len
  have hput := (Z6.out.put zero32_len hlF).row hlF
  have C7 := Lib.hid (C6.out.setCells (b := w.heap.size) (.inr (Nat.le_refl _)) (hc F) 0)
  have N7 : Hid (NdB (((w3.setCells b 35 (hc F)).setCell ⟨b, 67, none⟩ (.bool true)).setCells w.heap.size 0 (hc F)) b { n with own := F, told := true }) := by
    show _ = _
    rw [setCells_other (by omega)]
    exact N6.out
  have hcF := hc_len F
  clear hb3 H3 HH HT B0 HZ h0 h3 h5 ok5 ok6 Z5 C5 N5 H5 Z6 C6 N6
  go_wp2_with fail
  refine bodyPost_ret (v := .agg (hc F).toArray) (by simp [results, Tryd.results60, go_sem, hput, hlF]) rfl ⟨rfl, C7.out, N7.out⟩
end Go.Proofs.YtjlodnecdngdfaaDoor
