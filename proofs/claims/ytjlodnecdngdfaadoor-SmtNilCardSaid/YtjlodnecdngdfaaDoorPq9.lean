/-
  A proof out of a tree, plain: what stands beside a key's way, level by level; the root behind it.; Pairs of package smt as rows; a literal slice of one.; The frame of every law's proof: a call that answers true, and of what there was turns nothing, is what the row asks.; A map from hashes to hashes, any number of pairs, in memory.; A sparse tree in memory: its nodes, what they remember.; A list of pairs under unlike keys: what is told of a key, what a Put makes of the list.; Package smt: where two keys part.
-/
import Derived.Test.YtjlodnecdngdfaaDoorRows
import Derived.WalkKit
import Derived.ProofKit
import Derived.OpenShut
import Derived.Lib.SmallJoins
import Derived.Maps.OwnSet
import Derived.DeepKeys5
import Derived.Lib.BitFns
import Derived.BigQuiet
import Derived.Deep.QuietTactic
import Derived.Deep.CutRange
import Derived.Test.YtjlodnecdngdfaaDoorPq6
import Derived.Test.YtjlodnecdngdfaaDoorPq8
namespace Go.Proofs.YtjlodnecdngdfaaDoor
open Go.RowKit
set_option maxRecDepth 100000

/-- What stands beside a key's way at a level. -/
def sdP (V : List Int → List Int) (S : List (List Int)) (K : List Int) (i : Nat) : List Int := pl V (255 - i) (S.filter fun x => dif x K == i)
/-- The sides that are not zero, from the root on. -/
def prvS (V : List Int → List Int) (S : List (List Int)) (K : List Int) (L : Nat) : List (List Int) := ((List.range L).map (sdP V S K)).filter fun h => decide (¬ h = zero32)
theorem prvS_succ (V : List Int → List Int) (S : List (List Int)) (K : List Int) (L : Nat) : prvS V S K (L + 1) = prvS V S K L ++ (if sdP V S K L = zero32 then [] else [sdP V S K L]) := by
  unfold prvS
  rw [List.range_succ, List.map_append, List.filter_append]
  congr 1
  by_cases h : sdP V S K L = zero32
  · rw [if_pos h]; simp [h]
  · rw [if_neg h]; simp [h]
structure PvN (V : List Int → List Int) (S : List (List Int)) (K : List Int) (L : Nat) (M : List Int) (Ss : List (List Int)) : Prop where
  ky : KyOk M
  bit : ∀ i, i < 256 → bitI M i = if i < L ∧ ¬ sdP V S K i = zero32 then 1 else 0
  ss : Ss = prvS V S K L
section
variable {V W : List Int → List Int} {S S' : List (List Int)} {K M M' : List Int} {L L' : Nat} {Ss : List (List Int)}
theorem bit_zero32 (i : Nat) : bitI zero32 i = 0 := by
  unfold bitI
  have h : zero32.getD (i / 8) 0 = 0 := by
    by_cases h : i / 8 < 32
    · have e : zero32.getD (i / 8) 0 = zero32[i / 8]'(by rw [zero32_len]; exact h) := by simp [List.getD, zero32_len, h]
      rw [e]
      have : ∀ y ∈ zero32, y = 0 := by decide
      exact this _ (List.getElem_mem _)
    · rw [List.getD, List.getElem?_eq_none (by rw [zero32_len]; omega)]; rfl
  rw [h]; simp
theorem PvN.start (V : List Int → List Int) (S : List (List Int)) (K : List Int) : PvN V S K 0 zero32 [] :=
  ⟨⟨zero32_len, zero32_bytes⟩, fun i _ => by rw [bit_zero32, if_neg (by omega)], rfl⟩
theorem prvS_skip (hz : ∀ i, L ≤ i → i < L' → sdP V S K i = zero32) (hl : L ≤ L') : prvS V S K L' = prvS V S K L := by
  induction L' with
  | zero => obtain rfl : L = 0 := by omega
            rfl
  | succ n ih =>
    by_cases h : L = n + 1
    · rw [h]
    · rw [prvS_succ, if_pos (hz n (by omega) (by omega)), List.append_nil]
      exact ih (fun i h1 h2 => hz i h1 (by omega)) (by omega)
theorem PvN.skip (h : PvN V S K L M Ss) (hz : ∀ i, L ≤ i → i < L' → sdP V S K i = zero32) (hl : L ≤ L') : PvN V S K L' M Ss := by
  refine ⟨h.ky, fun i hi => ?_, by rw [prvS_skip hz hl]; exact h.ss⟩
  rw [h.bit i hi]
  by_cases h1 : i < L
  · by_cases h2 : sdP V S K i = zero32
    · rw [if_neg (fun x => x.2 h2), if_neg (fun x => x.2 h2)]
    · rw [if_pos ⟨h1, h2⟩, if_pos ⟨by omega, h2⟩]
  · rw [if_neg (fun x => h1 x.1)]
    by_cases h3 : i < L'
    · rw [if_neg (fun x => x.2 (hz i (by omega) h3))]
    · rw [if_neg (fun x => h3 x.1)]
theorem PvN.add {l : Nat} (h : PvN V S K l M Ss) (_ : l < 256) (hne : ¬ sdP V S K l = zero32) (ky : KyOk M') (hb : ∀ i, i < 256 → bitI M' i = if i = l then 1 else bitI M i) : PvN V S K (l + 1) M' (Ss ++ [sdP V S K l]) := by
  refine ⟨ky, fun i hi => ?_, by rw [prvS_succ, if_neg hne, ← h.ss]⟩
  rw [hb i hi, h.bit i hi]
  by_cases e : i = l
  · rw [if_pos e, if_pos ⟨by omega, by rw [e]; exact hne⟩]
  · rw [if_neg e]
    by_cases h1 : i < l
    · by_cases h2 : sdP V S K i = zero32
      · rw [if_neg (fun x => x.2 h2), if_neg (fun x => x.2 h2)]
      · rw [if_pos ⟨h1, h2⟩, if_pos ⟨by omega, h2⟩]
    · rw [if_neg (fun x => h1 x.1), if_neg (fun x => by have := x.1; omega)]
theorem PvN.zero {l : Nat} (h : PvN V S K l M Ss) (hz : sdP V S K l = zero32) : PvN V S K (l + 1) M Ss :=
  h.skip (fun i h1 h2 => by obtain rfl : i = l := by omega
                            exact hz) (by omega)
theorem PvN.mono (h : PvN V S K L M Ss) {l : Nat} (hz : ∀ i, L ≤ i → i < l → sdP V S K i = zero32) (hl : L ≤ l) : PvN V S K l M Ss := h.skip hz hl
theorem pl_len' (V : List Int → List Int) : ∀ (n : Nat) (S : List (List Int)), (pl V n S).length = 32
  | 0, [] => zero32_len
  | 0, k :: _ => lfH_len k (V k)
  | _ + 1, _ => abH_len _ _
theorem pl_bytes' (V : List Int → List Int) : ∀ (n : Nat) (S : List (List Int)), Bytes (pl V n S)
  | 0, [] => zero32_bytes
  | 0, k :: _ => lfH_bytes k (V k)
  | _ + 1, _ => abH_bytes _ _
theorem prvS_ok (V : List Int → List Int) (S : List (List Int)) (K : List Int) (L : Nat) : HsOk (prvS V S K L) := fun F hF => by
  obtain ⟨h1, _⟩ := List.mem_filter.1 hF
  obtain ⟨i, _, rfl⟩ := List.mem_map.1 h1
  exact ⟨pl_len' _ _ _, pl_bytes' _ _ _⟩
theorem prvS_len (V : List Int → List Int) (S : List (List Int)) (K : List Int) (L : Nat) : (prvS V S K L).length ≤ L := by
  have := List.length_filter_le (fun h => decide (¬ h = zero32)) ((List.range L).map (sdP V S K))
  simpa [prvS] using this
theorem PvN.hs (h : PvN V S K L M Ss) : HsOk Ss := by rw [h.ss]; exact prvS_ok _ _ _ _
theorem PvN.cnt (h : PvN V S K 256 M Ss) : ∀ n, n ≤ 256 → cntI M n = (prvS V S K n).length
  | 0, _ => rfl
  | n + 1, hn => by
    have ih := PvN.cnt h n (by omega)
    rw [prvS_succ, List.length_append, ← ih]
    show cntI M n + (bitI M n).toNat = _
    rw [h.bit n (by omega)]
    by_cases e : sdP V S K n = zero32
    · rw [if_neg (fun x => x.2 e), if_pos e]; rfl
    · rw [if_pos ⟨by omega, e⟩, if_neg e]; rfl
theorem prvS_split (V : List Int → List Int) (S : List (List Int)) (K : List Int) : ∀ {a b : Nat}, a ≤ b → ∃ T, prvS V S K b = prvS V S K a ++ T
  | a, 0, h => ⟨[], by obtain rfl : a = 0 := by omega
                       simp⟩
  | a, b + 1, h => by
    by_cases e : a = b + 1
    · exact ⟨[], by rw [e]; simp⟩
    · obtain ⟨T, hT⟩ := prvS_split V S K (a := a) (b := b) (by omega)
      exact ⟨T ++ (if sdP V S K b = zero32 then [] else [sdP V S K b]), by rw [prvS_succ, hT, List.append_assoc]⟩
theorem PvN.ok (h : PvN V S K 256 M Ss) : okS M Ss = true := decide_eq_true ⟨by rw [h.cnt 256 (by omega), h.ss], fun hm => by
  rw [h.ss] at hm
  have := (List.mem_filter.1 hm).2
  simp at this⟩
theorem PvN.side (h : PvN V S K 256 M Ss) {l : Nat} (hl : l < 256) : sdI M Ss l = sdP V S K l := by
  unfold sdI
  rw [h.bit l hl]
  by_cases e : sdP V S K l = zero32
  · rw [if_neg (fun x => by rw [if_neg (fun y => y.2 e)] at x; exact absurd x (by decide)), e]
  · rw [if_pos (by rw [if_pos ⟨hl, e⟩])]
    obtain ⟨T, hT⟩ := prvS_split V S K (a := l + 1) (b := 256) (by omega)
    rw [h.cnt l (by omega), h.ss, hT, prvS_succ, if_neg e]
    simp [List.getD]

/-! ### The way up -/
theorem dif_agree_of {x K : List Int} {i : Nat} (h : i ≤ dif x K) : AgreeB i x K := (dif_agree x K).mono h
theorem dif_step {x K : List Int} {i : Nat} (hi : i < 256) : (i + 1 ≤ dif x K) ↔ (i ≤ dif x K ∧ bitI x i = bitI K i) := by
  constructor
  · intro h; exact ⟨by omega, dif_agree x K i (by omega)⟩
  · rintro ⟨h1, h2⟩
    rcases Nat.lt_or_ge i (dif x K) with h | h
    · exact h
    · obtain rfl : dif x K = i := by omega
      exact absurd h2 (dif_ne hi)
theorem dif_at {x K : List Int} {i : Nat} (hi : i < 256) : (dif x K = i) ↔ (i ≤ dif x K ∧ ¬ bitI x i = bitI K i) := by
  constructor
  · intro h; exact ⟨by omega, by have := dif_ne (a := x) (b := K) (by omega); rw [h] at this; exact this⟩
  · rintro ⟨h1, h2⟩
    rcases Nat.lt_or_ge i (dif x K) with h | h
    · exact absurd (dif_agree x K i h) h2
    · omega
/-- The keys that go a key's way to a level. -/
def wayS (S : List (List Int)) (K : List Int) (i : Nat) : List (List Int) := S.filter fun x => decide (i ≤ dif x K)
theorem way_step (V : List Int → List Int) (S : List (List Int)) (K : List Int) {i : Nat} (hi : i < 256) :
    pl V (256 - i) (wayS S K i) = if bitI K i = 0 then abH (pl V (255 - i) (wayS S K (i + 1))) (sdP V S K i) else abH (sdP V S K i) (pl V (255 - i) (wayS S K (i + 1))) := by
  rw [show 256 - i = (255 - i) + 1 by omega, pl, show 255 - (255 - i) = i by omega]
  have e1 : bitI K i = 0 → (wayS S K i).filter (fun x => bitI x i == 0) = wayS S K (i + 1) ∧ (wayS S K i).filter (fun x => !(bitI x i == 0)) = S.filter fun x => dif x K == i := fun hk => by
    unfold wayS
    rw [List.filter_filter, List.filter_filter]
    constructor
    · refine List.filter_congr fun x _ => ?_
      have := dif_step (x := x) (K := K) hi
      rw [hk] at this
      by_cases h1 : i + 1 ≤ dif x K
      · obtain ⟨h2, h3⟩ := this.1 h1; simp [h1, h2, h3]
      · by_cases h2 : i ≤ dif x K <;> by_cases h3 : bitI x i = 0 <;> simp [h1, h2, h3]
        exact h1 (this.2 ⟨h2, h3⟩)
    · refine List.filter_congr fun x _ => ?_
      have := dif_at (x := x) (K := K) hi
      rw [hk] at this
      by_cases h1 : dif x K = i
      · obtain ⟨h2, h3⟩ := this.1 h1; simp [h1, h3]
      · have h4 : ¬ (i ≤ dif x K ∧ ¬ bitI x i = 0) := fun h => h1 (this.2 h)
        by_cases h2 : i ≤ dif x K
        · have h3 : bitI x i = 0 := Decidable.not_not.1 fun h => h4 ⟨h2, h⟩
          simp [h1, h3]
        · simp [h1, h2]
  have e2 : bitI K i = 1 → (wayS S K i).filter (fun x => !(bitI x i == 0)) = wayS S K (i + 1) ∧ (wayS S K i).filter (fun x => bitI x i == 0) = S.filter fun x => dif x K == i := fun hk => by
    unfold wayS
    rw [List.filter_filter, List.filter_filter]
    constructor
    · refine List.filter_congr fun x _ => ?_
      have := dif_step (x := x) (K := K) hi
      rw [hk] at this
      have b := bit01 x i
      by_cases h1 : i + 1 ≤ dif x K
      · obtain ⟨h2, h3⟩ := this.1 h1; simp [h1, h2, h3]
      · by_cases h2 : i ≤ dif x K <;> by_cases h3 : bitI x i = 0 <;> simp [h1, h2, h3]
        exact h1 (this.2 ⟨h2, by omega⟩)
    · refine List.filter_congr fun x _ => ?_
      have := dif_at (x := x) (K := K) hi
      rw [hk] at this
      have b := bit01 x i
      by_cases h1 : dif x K = i
      · obtain ⟨h2, h3⟩ := this.1 h1
        have h4 : bitI x i = 0 := by omega
        simp [h1, h4]
      · have h4 : ¬ (i ≤ dif x K ∧ ¬ bitI x i = 1) := fun h => h1 (this.2 h)
        by_cases h2 : i ≤ dif x K
        · have h3 : bitI x i = 1 := Decidable.not_not.1 fun h => h4 ⟨h2, h⟩
          simp [h1, h3]
        · simp [h1, h2]
  rcases bit01 K i with hk | hk
  · rw [if_pos hk, (e1 hk).1, (e1 hk).2]; rfl
  · rw [if_neg (by rw [hk]; decide), (e2 hk).1, (e2 hk).2]; rfl
theorem sdP_congr (hok : ∀ x ∈ S, KyOk x) (hm : ∀ x, ¬ x = K → (x ∈ S ↔ x ∈ S')) (hv : ∀ x ∈ S, ¬ x = K → V x = W x) {i : Nat} (hi : i < 256) : sdP V S K i = sdP W S' K i := by
  unfold sdP
  have hne : ∀ x, dif x K = i → ¬ x = K := fun x hx e => by
    have := dif_ne (a := x) (b := K) (by omega)
    rw [e] at this; exact this rfl
  refine pl_congr (255 - i) (by omega) (fun x hx => hok x (List.mem_filter.1 hx).1) (fun x hx y hy j hj => ?_) (fun x => ?_) (fun x hx => ?_)
  · have h1 : dif x K = i := by simpa using (List.mem_filter.1 hx).2
    have h2 : dif y K = i := by simpa using (List.mem_filter.1 hy).2
    by_cases e : j = i
    · have a1 := dif_ne (a := x) (b := K) (by omega)
      have a2 := dif_ne (a := y) (b := K) (by omega)
      rw [h1] at a1; rw [h2] at a2
      rw [e]
      have := bit01 x i; have := bit01 y i; have := bit01 K i
      omega
    · exact (dif_agree_of (x := x) (K := K) (i := i) (by omega) j (by omega)).trans (dif_agree_of (x := y) (K := K) (i := i) (by omega) j (by omega)).symm
  · rw [List.mem_filter, List.mem_filter]
    constructor
    · rintro ⟨a, b⟩; exact ⟨(hm x (hne x (by simpa using b))).1 a, b⟩
    · rintro ⟨a, b⟩; exact ⟨(hm x (hne x (by simpa using b))).2 a, b⟩
  · obtain ⟨a, b⟩ := List.mem_filter.1 hx
    exact hv x a (hne x (by simpa using b))
/-- The root behind a proof that was read out of a tree. -/
theorem PvN.root (h : PvN V S K 256 M Ss) (hok : ∀ x ∈ S, KyOk x) (hK : KyOk K) (hok' : ∀ x ∈ S', KyOk x) (hm : ∀ x, ¬ x = K → (x ∈ S ↔ x ∈ S')) (hv : ∀ x ∈ S, ¬ x = K → V x = W x) (hz : K ∉ S' → W K = zero32) : rootH K (W K) M Ss = pl W 256 S' := by
  unfold rootH
  rw [if_pos h.ok]
  have key : ∀ k, k ≤ 256 → upS K M Ss (lfH K (W K)) k = pl W k (wayS S' K (256 - k)) := by
    intro k
    induction k with
    | zero =>
      intro _
      show lfH K (W K) = _
      have h1 : ∀ x ∈ wayS S' K 256, x = K := fun x hx => by
        obtain ⟨a, b⟩ := List.mem_filter.1 hx
        exact key_eq (hok' x a) hK (dif_agree_of (by simpa using b))
      cases hw : wayS S' K (256 - 0) with
      | nil =>
        have hn : K ∉ S' := fun hin => by
          have : K ∈ wayS S' K 256 := List.mem_filter.2 ⟨hin, by
            have : 256 ≤ dif K K := dif_of (AgreeB.refl 256 K) (Nat.le_refl _)
            simpa using this⟩
          rw [show (256 : Nat) - 0 = 256 from rfl] at hw
          rw [hw] at this; cases this
        rw [hz hn]
        unfold pl lfH
        rw [if_pos rfl]
      | cons x T =>
        have : x = K := h1 x (by rw [show (256 : Nat) - 0 = 256 from rfl] at hw; rw [hw]; simp)
        rw [this]; rfl
    | succ n ih =>
      intro hn
      rw [upS, ih (by omega)]
      have e := way_step W S' K (i := 255 - n) (by omega)
      rw [show 256 - (255 - n) = n + 1 by omega, show 255 - (255 - n) = n by omega, show 255 - n + 1 = 256 - n by omega] at e
      rw [show 256 - (n + 1) = 255 - n by omega, e]
      unfold stpS
      rw [h.side (by omega), sdP_congr hok hm hv (by omega)]
  rw [key 256 (Nat.le_refl _)]
  congr 1
  exact filter_all (fun x _ => by simp)

/-! ### The way down -/
structure WkN (S : List (List Int)) (K : List Int) (L : Nat) (t : Tr) : Prop where
  ok : t.ok
  agr : ∀ x ∈ t.keys, AgreeB L x K
  ins : ∀ x ∈ t.keys, x ∈ S
  oth : ∀ x ∈ S, x ∉ t.keys → dif x K < L
  le : L ≤ t.fork
theorem WkN.start {t : Tr} (ok : t.ok) (h : ∀ x, x ∈ t.keys ↔ x ∈ S) : WkN S K 0 t := ⟨ok, fun x _ i hi => absurd hi (by omega), fun x hx => (h x).1 hx, fun x hx hn => absurd ((h x).2 hx) hn, Nat.zero_le _⟩
theorem sdP_none {i : Nat} (h : ∀ x ∈ S, ¬ dif x K = i) : sdP V S K i = zero32 := by
  unfold sdP
  rw [filter_none (fun x hx => by have := h x hx; simpa using this), pl_nil]
theorem dif_comm (a b : List Int) : dif a b = dif b a := by
  have h1 := dif_agree a b
  have h2 := dif_agree b a
  have l1 := dif_le a b
  have l2 := dif_le b a
  rcases Nat.lt_trichotomy (dif a b) (dif b a) with h | h | h
  · exact absurd (h2 _ h).symm (dif_ne (by omega))
  · exact h
  · exact absurd (h1 _ h).symm (dif_ne (by omega))
/-- The key parts from all that stands here. -/
theorem WkN.parts {t : Tr} (h : WkN S K L t) (hp : dif K t.key < t.fork) : L ≤ dif K t.key ∧ (∀ x ∈ t.keys, dif x K = dif K t.key) := by
  have ha : ∀ x ∈ t.keys, dif x K = dif K t.key := fun x hx => by
    rw [dif_comm]
    refine dif_is ((dif_agree K t.key).trans ((h.ok.agree x hx).mono (by omega))) (by have := h.ok.fork_le; omega) ?_
    rw [← h.ok.agree x hx _ hp]
    exact dif_ne (by have := h.ok.fork_le; omega)
  obtain ⟨x, hx⟩ := List.exists_mem_of_ne_nil _ t.keys_ne
  refine ⟨?_, ha⟩
  rw [← ha x hx]
  exact dif_of (h.agr x hx) (by have := h.le; have := h.ok.fork_le; omega)
theorem WkN.parts_none {t : Tr} (h : WkN S K L t) (hp : dif K t.key < t.fork) {i : Nat} (hi : L ≤ i) (hne : ¬ i = dif K t.key) : sdP V S K i = zero32 :=
  sdP_none fun x hx e => by
    by_cases hin : x ∈ t.keys
    · exact hne (by rw [← e]; exact (h.parts hp).2 x hin)
    · have := h.oth x hx hin; omega
theorem WkN.parts_side {t : Tr} (h : WkN S K L t) (hp : dif K t.key < t.fork) : sdP V S K (dif K t.key) = aboveH V t (dif K t.key + 1) := by
  rw [aboveH_pl V h.ok (by omega)]
  unfold sdP
  rw [show 256 - (dif K t.key + 1) = 255 - dif K t.key by omega]
  have hf := h.ok.fork_le
  refine pl_congr _ (by omega) (fun x hx => ?_) (fun x hx y hy j hj => ?_) (fun x => ?_) (fun _ _ => rfl)
  · obtain ⟨a, b⟩ := List.mem_filter.1 hx
    have b' : dif x K = dif K t.key := by simpa using b
    by_cases hin : x ∈ t.keys
    · exact h.ok.keysOk x hin
    · have := h.oth x a hin; have := (h.parts hp).1; omega
  · have m : ∀ x, x ∈ S.filter (fun x => dif x K == dif K t.key) → x ∈ t.keys := fun x hx => by
      obtain ⟨a, b⟩ := List.mem_filter.1 hx
      have b' : dif x K = dif K t.key := by simpa using b
      by_cases hin : x ∈ t.keys
      · exact hin
      · have := h.oth x a hin; have := (h.parts hp).1; omega
    exact ((h.ok.agree x (m x hx)).symm.trans (h.ok.agree y (m y hy))) j (by omega)
  · rw [List.mem_filter]
    constructor
    · rintro ⟨a, b⟩
      have b' : dif x K = dif K t.key := by simpa using b
      by_cases hin : x ∈ t.keys
      · exact hin
      · have := h.oth x a hin; have := (h.parts hp).1; omega
    · intro hx
      exact ⟨h.ins x hx, by simpa using (h.parts hp).2 x hx⟩
/-- The key's own leaf. -/
theorem WkN.leaf {t : Tr} (h : WkN S K L t) (hf : t.fork = 256) (hp : ¬ dif K t.key < t.fork) {i : Nat} (hi : L ≤ i) (h2 : i < 256) : sdP V S K i = zero32 :=
  sdP_none fun x hx e => by
    by_cases hin : x ∈ t.keys
    · have h3 : 256 ≤ dif x K := dif_of (((h.ok.agree x hin).symm.mono (by omega)).trans ((dif_agree K t.key).symm.mono (by omega))) (Nat.le_refl _)
      omega
    · have := h.oth x hx hin; omega
/-- The key goes on below. -/
theorem WkN.nd {k : List Int} {f : Nat} {l r : Tr} (h : WkN S K L (.nd k f l r)) (hp : ¬ dif K k < f) :
    (∀ i, L ≤ i → i < f → sdP V S K i = zero32) ∧ f < 256 ∧ L ≤ f ∧
    (bitI K f = 0 → sdP V S K f = aboveH V r (f + 1) ∧ WkN S K (f + 1) l) ∧ (bitI K f = 1 → sdP V S K f = aboveH V l (f + 1) ∧ WkN S K (f + 1) r) := by
  obtain ⟨a1, a2, a3, a4, a5, a6, a7, a8⟩ := h.ok
  have hL : L ≤ f := h.le
  have hKk : AgreeB f k K := ((dif_agree K k).symm).mono (by omega)
  have kl : ∀ x ∈ l.keys, AgreeB f x K ∧ bitI x f = 0 := fun x hx => ⟨(a7 x hx).1.symm.trans hKk, (a7 x hx).2⟩
  have kr : ∀ x ∈ r.keys, AgreeB f x K ∧ bitI x f = 1 := fun x hx => ⟨(a8 x hx).1.symm.trans hKk, (a8 x hx).2⟩
  have hkeys : (Tr.nd k f l r).keys = l.keys ++ r.keys := rfl
  have hot : ∀ x ∈ S, x ∉ l.keys → x ∉ r.keys → dif x K < L := fun x hx h1 h2 => h.oth x hx (by rw [hkeys, List.mem_append]; rintro (h | h); exact h1 h; exact h2 h)
  have il : ∀ x ∈ l.keys, x ∈ S := fun x hx => h.ins x (by rw [hkeys]; exact List.mem_append.2 (.inl hx))
  have ir : ∀ x ∈ r.keys, x ∈ S := fun x hx => h.ins x (by rw [hkeys]; exact List.mem_append.2 (.inr hx))
  refine ⟨fun i h1 h2 => sdP_none fun x hx e => ?_, a2, hL, fun hb => ?_, fun hb => ?_⟩
  · by_cases hin : x ∈ l.keys
    · have := dif_of (kl x hin).1 (Nat.le_of_lt a2); omega
    · by_cases hin2 : x ∈ r.keys
      · have := dif_of (kr x hin2).1 (Nat.le_of_lt a2); omega
      · have := hot x hx hin hin2; omega
  · have e1 : ∀ x ∈ r.keys, dif x K = f := fun x hx => dif_is (kr x hx).1 a2 (by rw [(kr x hx).2, hb]; decide)
    have e2 : ∀ x ∈ l.keys, AgreeB (f + 1) x K := fun x hx i hi => by
      by_cases e : i = f
      · rw [e, (kl x hx).2, hb]
      · exact (kl x hx).1 i (by omega)
    have e3 : ∀ x ∈ l.keys, f + 1 ≤ dif x K := fun x hx => dif_of (e2 x hx) (by omega)
    have mm : ∀ x, x ∈ S.filter (fun x => dif x K == f) ↔ x ∈ r.keys := fun x => by
      rw [List.mem_filter]
      constructor
      · rintro ⟨a, b⟩
        have b' : dif x K = f := by simpa using b
        by_cases hin : x ∈ r.keys
        · exact hin
        · by_cases hin2 : x ∈ l.keys
          · have := e3 x hin2; omega
          · have := hot x a hin2 hin; omega
      · intro hx; exact ⟨ir x hx, by simpa using e1 x hx⟩
    refine ⟨?_, a3, e2, il, fun x hx hn => ?_, by omega⟩
    · rw [aboveH_pl V a4 (by omega)]
      unfold sdP
      rw [show 256 - (f + 1) = 255 - f by omega]
      refine pl_congr _ (by omega) (fun x hx => a4.keysOk x ((mm x).1 hx)) (fun x hx y hy j hj => ?_) mm (fun _ _ => rfl)
      exact ((a4.agree x ((mm x).1 hx)).symm.trans (a4.agree y ((mm y).1 hy))) j (by omega)
    · by_cases hin : x ∈ r.keys
      · have := e1 x hin; omega
      · have := hot x hx hn hin; omega
  · have e1 : ∀ x ∈ l.keys, dif x K = f := fun x hx => dif_is (kl x hx).1 a2 (by rw [(kl x hx).2, hb]; decide)
    have e2 : ∀ x ∈ r.keys, AgreeB (f + 1) x K := fun x hx i hi => by
      by_cases e : i = f
      · rw [e, (kr x hx).2, hb]
      · exact (kr x hx).1 i (by omega)
    have e3 : ∀ x ∈ r.keys, f + 1 ≤ dif x K := fun x hx => dif_of (e2 x hx) (by omega)
    have mm : ∀ x, x ∈ S.filter (fun x => dif x K == f) ↔ x ∈ l.keys := fun x => by
      rw [List.mem_filter]
      constructor
      · rintro ⟨a, b⟩
        have b' : dif x K = f := by simpa using b
        by_cases hin : x ∈ l.keys
        · exact hin
        · by_cases hin2 : x ∈ r.keys
          · have := e3 x hin2; omega
          · have := hot x a hin hin2; omega
      · intro hx; exact ⟨il x hx, by simpa using e1 x hx⟩
    refine ⟨?_, a4, e2, ir, fun x hx hn => ?_, by omega⟩
    · rw [aboveH_pl V a3 (by omega)]
      unfold sdP
      rw [show 256 - (f + 1) = 255 - f by omega]
      refine pl_congr _ (by omega) (fun x hx => a3.keysOk x ((mm x).1 hx)) (fun x hx y hy j hj => ?_) mm (fun _ _ => rfl)
      exact ((a3.agree x ((mm x).1 hx)).symm.trans (a3.agree y ((mm y).1 hy))) j (by omega)
    · by_cases hin : x ∈ l.keys
      · have := e1 x hin; omega
      · have := hot x hx hin hn; omega
end
end Go.Proofs.YtjlodnecdngdfaaDoor
namespace Go.Proofs.YtjlodnecdngdfaaDoor
open Go.RowKit
set_option maxRecDepth 100000

def prRow (K V : List Int) : List Value := hc K ++ (hc V ++ [])
theorem prRow_len {K V : List Int} (hK : K.length = 32) (hV : V.length = 32) : (prRow K V).length = 64 := by simp [prRow, hc_len, hK, hV]
def PrB (w : World) (b : Nat) (K V : List Int) : Prop := w.heap[b]? = some (.cells (prRow K V).toArray 72 (0, 0))
section
variable {w w' : World} {b : Nat} {K V : List Int}
theorem PrB.lt (h : PrB w b K V) : b < w.heap.size := (Array.getElem?_eq_some_iff.1 h).1
theorem PrB.new (w : World) (K V : List Int) : PrB (w.alloc (.cells (prRow K V).toArray 72)) w.heap.size K V := heap_alloc_new w _
theorem PrB.on (h : PrB w b K V) (hb : Below w.heap.size w w') : PrB w' b K V := by
  unfold PrB
  rw [hb.block b h.lt]; exact h
theorem PrB.whole (h : PrB w b K V) (hK : K.length = 32) (hV : V.length = 32) : rowOf w b 0 64 = prRow K V := by
  rw [rowOf_block h]
  have := prRow_len hK hV
  simp [List.take_of_length_le (Nat.le_of_eq this)]
theorem PrB.key (h : PrB w b K V) (hK : K.length = 32) : rowOf w b 0 32 = hc K := by
  rw [rowOf_block h]
  simp [prRow, hc_len, hK]
theorem PrB.val (h : PrB w b K V) (hK : K.length = 32) (hV : V.length = 32) : rowOf w b 32 32 = hc V := by
  rw [rowOf_block h]
  have := take_midd (hc K) (hc V) [] (o := 32) (n := 32) (by simp [hc_len, hK]) (by simp [hc_len, hV])
  simpa [prRow] using this
theorem PrB.there (h : PrB w b K V) (hK : K.length = 32) (hV : V.length = 32) : w.there b 0 64 := fun j hj => by
  refine ⟨?_, Joins.unfrozen_of_block h _⟩
  rw [cell_of_row _ _ _ _ _ _ h]
  have := prRow_len hK hV
  simp [this]; omega
theorem PrB.put (h : PrB w b K V) (hK : K.length = 32) (hV : V.length = 32) {K' V' : List Int} (hK' : K'.length = 32) (hV' : V'.length = 32) : PrB (w.setCells b 0 (prRow K' V')) b K' V' := by
  have := setCells_block (b := b) (t := 72) (fr := (0, 0)) (prRow K' V') (o := 0) (w := w) (pre := []) (mid := prRow K V) (post := []) (by simpa [PrB] using h) rfl (by rw [prRow_len hK hV, prRow_len hK' hV'])
  simpa [PrB] using this
end
theorem pr_one (K V : List Int) : (prRow K V).toArray.all (·.oneCell') = true := by
  refine all_oneCell_toArray fun u hu => ?_
  simp only [prRow, List.mem_append, List.not_mem_nil, or_false] at hu
  rcases hu with hu | hu
  all_goals exact (Array.all_eq_true_iff_forall_mem.1 (hc_one _)) u (by simpa using hu)
@[go_sem ↓] theorem load64p (a : Addr) : loadCellsFrom a 0 64 #[] = rowLoad a 64 := rfl
theorem run_storeCells_pr {P : Program} (w : World) (b : Nat) (K V : List Int) (hK : K.length = 32) (hV : V.length = 32) (ht : w.there b 0 64) : (storeCells ⟨b, 0, none⟩ (prRow K V) 0).run P w = .ok () (w.setCells b 0 (prRow K V)) := by
  have e := prRow_len hK hV
  have := run_storeCells_cells (P := P) b 0 (prRow K V) 0 w (fun j hj => by rw [e] at hj; simpa using (ht j hj).1) (fun j hj => by rw [e] at hj; simpa using (ht j hj).2) (fun u hu => (Array.all_eq_true_iff_forall_mem.1 (pr_one K V)) u (by simpa using hu))
  simpa using this
theorem prRow_len' {K V : List Int} (hK : K.length = 32) (hV : V.length = 32) : (prRow K V).length = 64 := prRow_len hK hV
@[go_sem ↓] theorem Tryd.zero_pr (w : World) : (zeroValue 72).run Tryd.prog w = .ok (.agg (prRow zero32 zero32).toArray) w := by kernel_rfl
def prPlaces : List (Nat × Nat) := [(0, 32), (32, 32)]
theorem Tryd.built_pr (ps : List (Nat × Value)) : Tryd.prog.built 72 ps = Instr.fill (fun i => prPlaces.toArray[i]?) (prRow zero32 zero32).toArray ps := by kernel_rfl
@[go_sem ↓] theorem Tryd.build_pr (ps : Array (Nat × Value)) : Instr.build 72 ps = rowBuild 72 ps := rfl
@[go_sem] theorem Tryd.run_pr (w : World) (K V : List Int) (hK : K.length = 32) (hV : V.length = 32) :
    (rowBuild 72 #[(0, .agg (hc K).toArray), (1, .agg (hc V).toArray)]).run Tryd.prog w = .ok (.agg (prRow K V).toArray) w := by
  refine run_build w _ _ _ ?_
  rw [Tryd.built_pr]
  show Instr.fill _ _ ((0, Value.agg (hc K).toArray) :: (1, Value.agg (hc V).toArray) :: []) = _
  have z1 : prRow zero32 zero32 = [] ++ (hc zero32 ++ (hc zero32 ++ [])) := rfl
  rw [z1, fill_at (i := 0) (off := 0) (size := 32) (vs := hc K) rfl rfl rfl rfl (by rw [hc_len, hK])]
  rw [List.nil_append]
  rw [fill_at (i := 1) (off := 32) (size := 32) (vs := hc V) rfl rfl (by rw [hc_len, hK]) rfl (by rw [hc_len, hV])]
  rfl
/-- A new row of one element. -/
theorem run_bs_one {P : Program} {t e : TypeId} {n : Nat} {zs xs : List Value} (w : World) (ht : P.underlying t = some (.slice e)) (hs : (sizeOf e).run P w = .ok n w) (hz : (zeroValue e).run P w = .ok (.agg zs.toArray) w)
    (hn : 0 < n) (hm : n ≤ 65536) (hx : xs.length = n) :
    (Instr.buildSlice t 1 #[(0, .agg xs.toArray)]).run P w = .ok (.slice (some ⟨w.heap.size, 0, none⟩) 1 1) (w.alloc (.cells xs.toArray e)) := by
  have hf : ∀ m : List Value, m.length = n → Instr.fill (fun i => some (i * n, n)) m.toArray #[(0, Value.agg xs.toArray)].toList = some xs.toArray := by
    intro m hm
    have := fill_at (place := fun i => some (i * n, n)) (rest := []) (i := 0) (off := 0) (size := n) (v := .agg xs.toArray) (pre := []) (mid := m) (post := []) (vs := xs) (by simp) rfl rfl hm hx
    simpa [Instr.fill] using this
  have hf' := hf ((Array.range (1 * n)).map (zs.toArray[· % zs.toArray.size]!)).toList (by simp)
  rw [Array.toArray_toList] at hf'
  unfold Instr.buildSlice
  simp only [Sem.run_bind, run_underlying ht, Result.andThen_ok, hs]
  rw [if_neg (by omega)]
  rw [if_neg (by omega)]
  simp only [Sem.run_bind, Sem.run_pure, Result.andThen_ok, hz, Value.cells]
  rw [hf']
  simp [newRow]
def rowNew (t : TypeId) (ps : Array (Nat × Value)) : Sem Value := Instr.buildSlice t 1 ps
@[go_sem ↓] theorem Tryd.slice_pr (ps : Array (Nat × Value)) : Instr.buildSlice 30 1 ps = rowNew 30 ps := rfl
@[go_sem] theorem Tryd.run_slice_pr (w : World) (K V : List Int) (hK : K.length = 32) (hV : V.length = 32) :
    (rowNew 30 #[(0, .agg (prRow K V).toArray)]).run Tryd.prog w = .ok (.slice (some ⟨w.heap.size, 0, none⟩) 1 1) (w.alloc (.cells (prRow K V).toArray 72)) :=
  run_bs_one w Tryd.underlying30 (by kernel_rfl) (Tryd.zero_pr w) (n := 64) (by decide) (by decide) (prRow_len hK hV)
end Go.Proofs.YtjlodnecdngdfaaDoor
namespace Go.Proofs.YtjlodnecdngdfaaDoor
open Go.ChangeShapes Go.WideShapes Go.ChangeAt Go.RowKit

theorem Tryd.ownNone : ownKnob Tryd.prog.godebug = none := by kernel_rfl
theorem Tryd.laidOutTrue : laidOutB Tryd.prog = true := by kernel_rfl

section
variable {H : Type} {enc : TypeId × Value → H} {P : Program}

theorem post_of_below {f : Func} {s : ChangeSpec} {apart fresh handsOn again : Bool} {W W' : World} {args : Array Value} {v : Value} {ds gs : List (DataW H)} {before pa pv : List MemPlace}
    (hW : DataW.Whole enc P f.params.toList s.vars apart W args.toList ds gs before)
    (hres : ∀ (b : Nat) (sp : Nat → Bool) (hd : Bool), DataW.TrodAll enc P W' b sp hd f.resultTypes.toList (v.resultList f.resultTypes.size) (s.fn H (ds ++ gs)).results [])
    (hargs : ∀ sp : Nat → Bool, (∀ p ∈ before, sp p.block = true) → DataW.TrodAll enc P W' 0 sp true f.params.toList args.toList (s.fn H (ds ++ gs)).args pa)
    (hvars : ∀ sp : Nat → Bool, (∀ p ∈ before, sp p.block = true) → DataW.TrodVars enc P W' sp s.vars (s.fn H (ds ++ gs)).vars pv)
    (hps : before = pa ++ pv) (hb : Below W.heap.size W W')
    (hok : ∀ (j : Nat) (t : TypeId) (r : Value), f.resultTypes[j]? = some t → (v.resultList f.resultTypes.size)[j]? = some r → Value.okWide P W' .any 0 t r) :
    s.post enc P f apart fresh handsOn again W args v W' := by
  have hlt : ∀ p ∈ before, p.block < W.heap.size := fun p hp => hW.lt p hp
  have hold : ∀ p ∈ before, (fun b => decide (b < W.heap.size)) p.block = true := fun p hp => by simpa using hlt p hp
  refine ⟨ds, gs, before, [], pa, pv, hW, hres _ _ _, hargs _ hold, hvars _ hold, World.keptBut_mono (fun p hp => ⟨hp, ?_⟩) (hb.frame (· ∈ before)), fun _ => ?_⟩
  · rw [hps, List.mem_append] at hp
    exact Or.inr hp
  · obtain ⟨_, _, _, _, _, hz, hn⟩ := hW
    refine ⟨hok, _, _, ([] ++ pa) ++ pv, ⟨[] ++ pa, pv, trodAll_append (hargs _ (fun _ _ => rfl)) (hres _ _ _), hvars _ (fun _ _ => rfl), rfl, ?_, ?_⟩, ?_⟩
    · intro b off hp
      have hin : MemPlace.cell b off ∈ before := by rw [hps]; simpa using hp
      rw [hb.frozen (hlt _ hin)]
      exact hz b off hin
    · intro ha
      have := hn ha
      rw [hps] at this
      simpa using this
    · intro p hp _
      rw [hps]
      simpa using hp

theorem trodAll_stays (hl : laidOutB P = true) {W W' : World} {sp' : Nat → Bool} : ∀ (ts : List TypeId) (_ : ts.all (fun t => P.readableRec t && decide (t < P.types.size)) = true) {vs : List Value} {ds : List (DataW H)} {ps : List MemPlace}
    (_ : DataW.TrodAll enc P W 0 (fun _ => true) true ts vs ds ps) (_ : ∀ p ∈ ps, W.sameAt W' p) (_ : ∀ p ∈ ps, sp' p.block = true), DataW.TrodAll enc P W' 0 sp' true ts vs ds ps
  | [], _, vs, ds, ps, h, _, _ => by
    obtain ⟨rfl, rfl, rfl⟩ := trodAll_nil h
    exact trodAll_mk0
  | t :: ts, hr, vs, ds, ps, h, hsame, hs => by
    obtain ⟨v, vs', d, ds', p, q, rfl, rfl, rfl, h1, h2⟩ := trodAll_cons h
    simp only [List.all_cons, Bool.and_eq_true, decide_eq_true_eq] at hr
    exact trodAll_cons_mk (WideElems.Trod_stays hl hr.1.1 hr.1.2 h1 (fun x hx => hsame x (by simp [hx])) (fun x hx => hs x (by simp [hx])))
      (trodAll_stays hl ts hr.2 h2 (fun x hx => hsame x (by simp [hx])) (fun x hx => hs x (by simp [hx])))

/-- A LAW's END: it answers true, and of what there was nothing has turned. -/
theorem law_post {f : Func} {s : ChangeSpec} {tb : TypeId} {W W' : World} {args : Array Value} {ds gs : List (DataW H)} {before : List MemPlace} (hl : laidOutB P = true)
    (hW : DataW.Whole enc P f.params.toList s.vars false W args.toList ds gs before) (hvars : s.vars = []) (hpar : f.params.toList.all (fun t => P.readableRec t && decide (t < P.types.size)) = true)
    (hrt : f.resultTypes = #[tb]) (htb : P.underlying tb = some .bool) (hres : (s.fn H ds).results = [.lit (.bool true)]) (hargs : (s.fn H ds).args = ds) (hvs : (s.fn H ds).vars = [])
    (hb : Below W.heap.size W W') : s.post enc P f false true false false W args (.bool true) W' := by
  have hW' := hW
  have hlt : ∀ p ∈ before, p.block < W.heap.size := fun p hp => hW.lt p hp
  obtain ⟨p, q, hA, hV, rfl, hfz, hnd⟩ := hW
  rw [hvars] at hV
  obtain ⟨rfl, rfl⟩ := trodVars_none hV
  refine post_of_below (pa := p) (pv := []) hW' ?_ ?_ ?_ rfl hb ?_
  · intro b sp hd
    rw [List.append_nil, hres, hrt]
    exact trodAll_mk1 (shut_bool htb true)
  · intro sp hsp
    rw [List.append_nil, hargs]
    exact trodAll_stays hl _ hpar hA (fun x hx => hb.same (hlt x (by simp [hx]))) (fun x hx => hsp x (by simp [hx]))
  · intro sp hsp
    rw [List.append_nil, hvs, hvars]
    rfl
  · exact ok_one hrt rfl (okWide_bool_mk htb true)
end
end Go.Proofs.YtjlodnecdngdfaaDoor
namespace Go.Proofs.YtjlodnecdngdfaaDoor
open Go.RowKit
open Go.Maps (Keyed)
set_option maxRecDepth 100000

theorem mapM_optS {α β : Type} {f : α → Option β} {g : α → β} : ∀ l : List α, (∀ x ∈ l, f x = some (g x)) → l.mapM f = some (l.map g)
  | [], _ => rfl
  | x :: l, h => by rw [List.mapM_cons, h x (by simp), mapM_optS l (fun y hy => h y (by simp [hy]))]; rfl
theorem Tryd.keyRowS : (24 : TypeId) < Tryd.prog.types.size := of_decide_eq_true (by kernel_rfl)
theorem Tryd.hashLawS : WideMaps.KeyLaw Tryd.prog 24 := deep_law_laid Tryd.laidOutTrue (m := 2) (by omega) Tryd.keyRowS (by kernel_rfl) (by rw [Tryd.underlying24])
theorem Tryd.hashKeyedS : Keyed Tryd.prog 24 := Keyed.of_law Tryd.hashLawS
theorem u8_wfS {x : Int} (h : 0 ≤ x ∧ x < 256) : (Lit.int .u8 x).wf = true := by
  have : 0 ≤ x ∧ x ≤ 255 := by omega
  simpa [Lit.wf, IntKind.min, IntKind.max, IntKind.signed, IntKind.bits] using this
theorem Tryd.hash_keyS {F : List Int} (hF : F.length = 32) (bF : Bytes F) : ∃ kl, keyOf Tryd.prog 24 (.agg (hc F).toArray) = some kl := by
  have hsz : Tryd.prog.types.size = (Tryd.prog.types.size - 1) + 1 := by kernel_rfl
  have hl : (hc F).length = 32 := by rw [hc_len, hF]
  have hfm : (Value.agg (hc F).toArray).formed Tryd.prog 24 = true := by
    simp [Value.formed, Tryd.underlying24, show Tryd.prog.cellsOf 24 = 32 by kernel_rfl, hl]
  have hlit : Tryd.prog.keyLits (Tryd.prog.types.size + 1) 24 (hc F) = some (((List.range 32).map fun i => [Lit.int .u8 (F.getD i 0)]).flatten) := by
    unfold Program.keyLits
    simp only [Tryd.underlying24, show Tryd.prog.cellsOf 24 = 32 by kernel_rfl, show Tryd.prog.cellsOf 5 = 1 by kernel_rfl, hl, if_true, Nat.mul_one]
    rw [mapM_optS (g := fun i => [Lit.int .u8 (F.getD i 0)])]
    · rfl
    · intro i hi
      have hi' : i < 32 := by simpa using hi
      have e : ((hc F).drop i).take 1 = [.int .u8 (F.getD i 0)] := by
        apply List.ext_getElem?
        intro j
        rcases j with _ | j
        · simp [hc, List.getD, hF, hi']
        · rw [List.getElem?_eq_none (by simp; omega)]; simp
      rw [e, hsz]
      unfold Program.keyLits
      simp only [Tryd.underlying5]
      have hb := bF (F.getD i 0) (by simp [List.getD, hF, hi'])
      rw [show F.getD i 0 = F[i]?.getD 0 by simp [List.getD]] at hb ⊢
      simp [u8_wfS hb]
  refine ⟨.string (keyBytes (((List.range 32).map fun i => [Lit.int .u8 (F.getD i 0)]).flatten)), ?_⟩
  unfold keyOf
  simp only [Tryd.underlying24, hfm, show Tryd.prog.keyType 24 = true by kernel_rfl, Bool.and_self, if_true]
  rw [show (Value.agg (hc F).toArray).cells.toList = hc F by simp [Value.cells], hlit]
  rfl
/-- An entry: key, value, when it came. -/
structure En where
  k : List Int
  v : List Int
  b : Nat
def En.me (e : En) : MapEntry := { key := .agg (hc e.k).toArray, val := .agg (hc e.v).toArray, born := e.b }
def mes (E : List En) : Array MapEntry := (E.map En.me).toArray
def EnOk (E : List En) : Prop := ∀ e ∈ E, e.k.length = 32 ∧ e.v.length = 32
def fndE (K : List Int) : List En → Nat → Option (Nat × List Int)
  | [], _ => none
  | e :: E, i => if K = e.k then some (i, e.v) else fndE K E (i + 1)
/-- The value under a key; zero where there is none. -/
def vOf (E : List En) (K : List Int) : List Int := ((fndE K E 0).map (·.2)).getD zero32
def hv (o : Option (Nat × List Int)) : Option (Nat × Value) := o.map fun x => (x.1, .agg (hc x.2).toArray)
theorem len32 {W : List Int} (h : W.length = 32) : ∃ a0 a1 a2 a3 a4 a5 a6 a7 a8 a9 a10 a11 a12 a13 a14 a15 a16 a17 a18 a19 a20 a21 a22 a23 a24 a25 a26 a27 a28 a29 a30 a31, W = [a0, a1, a2, a3, a4, a5, a6, a7, a8, a9, a10, a11, a12, a13, a14, a15, a16, a17, a18, a19, a20, a21, a22, a23, a24, a25, a26, a27, a28, a29, a30, a31] := by
  match W, h with
  | [a0, a1, a2, a3, a4, a5, a6, a7, a8, a9, a10, a11, a12, a13, a14, a15, a16, a17, a18, a19, a20, a21, a22, a23, a24, a25, a26, a27, a28, a29, a30, a31], _ => exact ⟨a0, a1, a2, a3, a4, a5, a6, a7, a8, a9, a10, a11, a12, a13, a14, a15, a16, a17, a18, a19, a20, a21, a22, a23, a24, a25, a26, a27, a28, a29, a30, a31, rfl⟩
theorem map_er {α β : Type} (f : α → β) : ∀ (l : List α) (i : Nat), (l.map f).eraseIdx i = (l.eraseIdx i).map f
  | [], _ => rfl
  | _ :: _, 0 => rfl
  | a :: l, i + 1 => by simp [List.eraseIdx, map_er f l i]
theorem ck_any {K : List Int} (h : K.length = 32) (b : Bool) (w : World) : (Instr.checkKey b 10000 24 (.agg (hc K).toArray)).run Tryd.prog w = .ok () w := by
  obtain ⟨a0, a1, a2, a3, a4, a5, a6, a7, a8, a9, a10, a11, a12, a13, a14, a15, a16, a17, a18, a19, a20, a21, a22, a23, a24, a25, a26, a27, a28, a29, a30, a31, rfl⟩ := len32 h
  cases b <;> kernel_rfl
theorem ask_any {K : List Int} (hK : K.length = 32) (w : World) : ∀ (E : List En) (i : Nat), EnOk E → (Instr.findAsking 24 (.agg (hc K).toArray) (E.map En.me) i).run Tryd.prog w = .ok (hv (fndE K E i)) w
  | [], _, _ => rfl
  | e :: E, i, h => by
    have he := (h e (by simp)).1
    have hq : (Op.equal 24 (.agg (hc K).toArray) (.agg (hc e.k).toArray)).run Tryd.prog w = .ok (K == e.k) w := Tryd.eq_hash w K e.k hK he
    rw [List.map_cons, Instr.findAsking]
    simp only [Sem.run_bind, En.me, hq, Result.andThen_ok]
    unfold fndE
    by_cases hk : K = e.k
    · rw [if_pos hk, beq_iff_eq.2 hk]
      rfl
    · rw [if_neg hk, beq_eq_false_iff_ne.2 hk]
      exact ask_any hK w E (i + 1) (fun x hx => h x (by simp [hx]))
theorem find_any {K : List Int} (hK : K.length = 32) (w : World) {E : List En} (h : EnOk E) : (Instr.findKey 24 (.agg (hc K).toArray) (mes E).toList).run Tryd.prog w = .ok (hv (fndE K E 0)) w := by
  unfold Instr.findKey
  simp only [Sem.run_bind, run_underlying Tryd.underlying24, Result.andThen_ok]
  cases E with
  | nil => rfl
  | cons e E =>
    have e1 : ∀ td, Instr.findNow (.array 32 td) (.agg (hc K).toArray) (mes (e :: E)).toList 0 = none := fun td => rfl
    have := ask_any hK w (e :: E) 0 h
    exact this
section
variable {w : World} {b c : Nat} {E : List En} {K : List Int}
theorem look_any (ok : Bool) (hb : w.heap[b]? = some (.map (mes E) c)) (h : EnOk E) (hK : K.length = 32) : (Instr.lookup 53 (.map (some b)) (.agg (hc K).toArray) ok).run Tryd.prog w = .ok (if ok then .tuple #[.agg (hc (vOf E K)).toArray, .bool (fndE K E 0).isSome] else .agg (hc (vOf E K)).toArray) w := by
  have := run_lookup_at (r := hv (fndE K E 0)) ok Tryd.underlying53 hb (ck_any hK _ w) (find_any hK w h) (Tryd.zero_hash w)
  rw [this]
  unfold vOf hv
  cases fndE K E 0 <;> rfl
theorem upd_new {V : List Int} (hb : w.heap[b]? = some (.map (mes E) c)) (h : EnOk E) (hK : K.length = 32) (hn : fndE K E 0 = none) : (Instr.mapUpdate 53 (.map (some b)) (.agg (hc K).toArray) (.agg (hc V).toArray)).run Tryd.prog w = .ok () (putMap w b (mes (E ++ [⟨K, V, c⟩])) (c + 1)) := by
  have := run_mapUpdate_new (v := .agg (hc V).toArray) Tryd.underlying53 hb (ck_any hK _ w) (by have := find_any hK w h; rw [hn] at this; exact this)
  rw [this]
  congr 2
  simp [mes, En.me]
theorem del_any (ty : TypeId) {i : Nat} {V : List Int} (hb : w.heap[b]? = some (.map (mes E) c)) (h : EnOk E) (hK : K.length = 32) (hs : fndE K E 0 = some (i, V)) : (Builtin.delete_ #[53, 24] ty #[.map (some b), .agg (hc K).toArray]).run Tryd.prog w = .ok (.tuple #[]) (putMap w b (mes (E.eraseIdx i)) c) := by
  have := run_delete_at ty Tryd.underlying53 hb (ck_any hK _ w) (by have := find_any hK w h; rw [hs] at this; exact this)
  rw [this]
  congr 2
  simp [mes, map_er]
theorem fnd_spec : ∀ {E : List En} {j i : Nat} {V : List Int}, fndE K E j = some (i, V) → ∃ n e, i = j + n ∧ E[n]? = some e ∧ e.k = K ∧ e.v = V
  | [], _, _, _, h => by cases h
  | e :: E, j, i, V, h => by
    unfold fndE at h
    by_cases hk : K = e.k
    · rw [if_pos hk] at h
      simp only [Option.some.injEq, Prod.mk.injEq] at h
      obtain ⟨rfl, rfl⟩ := h
      exact ⟨0, e, rfl, rfl, hk.symm, rfl⟩
    · rw [if_neg hk] at h
      obtain ⟨n, e', h1, h2, h3, h4⟩ := fnd_spec h
      exact ⟨n + 1, e', by omega, by simpa using h2, h3, h4⟩
theorem upd_old {V V0 : List Int} {i : Nat} (hb : w.heap[b]? = some (.map (mes E) c)) (h : EnOk E) (hK : K.length = 32) (bK : Bytes K) (hn : fndE K E 0 = some (i, V0)) : (Instr.mapUpdate 53 (.map (some b)) (.agg (hc K).toArray) (.agg (hc V).toArray)).run Tryd.prog w = .ok () (putMap w b (mes (E.modify i fun e => { e with v := V })) c) := by
  obtain ⟨kl, hkl⟩ := Tryd.hash_keyS hK bK
  have hst := Tryd.hashKeyedS.stays w hkl
  have hf := find_any hK w h
  rw [hn] at hf
  obtain ⟨n, e, h1, h2, h3, h4⟩ := fnd_spec hn
  obtain rfl : i = n := by omega
  have hel : (mes E)[i]? = some e.me := by simp [mes, h2]
  have hke : ((((mes E)[i]?).map (·.key)).getD (Value.agg (hc K).toArray)) = .agg (hc K).toArray := by
    rw [hel]
    show Value.agg (hc e.k).toArray = _
    rw [h3]
  unfold Instr.mapUpdate
  simp only [Sem.run_bind, run_underlying Tryd.underlying53, Result.andThen_ok, getMap hb, ck_any hK, hf, hv, Option.map_some, hke, hst, setMap _ hb]
  have hmod : ∀ (l : List En) (n : Nat), (∀ x, l[n]? = some x → x.k = K) → (l.map En.me).modify n (fun x => { x with key := .agg (hc K).toArray, val := .agg (hc V).toArray }) = (l.modify n fun x => { x with v := V }).map En.me := by
    intro l
    induction l with
    | nil => intro n _; cases n <;> rfl
    | cons x l ih =>
      intro n hx
      cases n with
      | zero =>
        have hxk := hx x rfl
        simp [List.modify, En.me, hxk]
      | succ n => rw [List.map_cons, List.modify_succ_cons, List.modify_succ_cons, List.map_cons, ih n (fun y hy => hx y (by simpa using hy))]
  have := hmod E i (fun x hx => by rw [h2] at hx; rw [← Option.some.inj hx]; exact h3)
  have hE : (mes E).modify i (fun x => { x with key := .agg (hc K).toArray, val := .agg (hc V).toArray }) = mes (E.modify i fun x => { x with v := V }) := by
    unfold mes
    apply Array.ext'
    simpa [Array.toList_modify] using this
  unfold putMap
  rw [← hE]
end
end Go.Proofs.YtjlodnecdngdfaaDoor
namespace Go.Proofs.YtjlodnecdngdfaaDoor
open Go.RowKit
set_option maxRecDepth 100000

/-- Block b holds a node of the tree t, its branches at x and y; what it remembers is so. -/
def NdA (w : World) (V : List Int → List Int) (t : Tr) (b : Nat) (x y : Option Addr) : Prop :=
  ∃ n : Nd, NdB w b n ∧ n.ok ∧ n.key = t.key ∧ n.fork = (t.fork : Int) ∧ n.lo = x ∧ n.hi = y ∧ (n.told = true → n.own = hereH V t) ∧ (n.known = true → ∃ lv : Nat, n.lvl = (lv : Int) ∧ n.high = aboveH V t lv)
/-- The tree t lies at block b, in the blocks bl. -/
def TrA (w : World) (V : List Int → List Int) : Tr → Nat → List Nat → Prop
  | .lf k, b, bl => bl = [b] ∧ ∃ x y, NdA w V (.lf k) b x y
  | .nd k f l r, b, bl => ∃ x y bl1 bl2, bl = b :: (bl1 ++ bl2) ∧ NdA w V (.nd k f l r) b (some ⟨x, 0, none⟩) (some ⟨y, 0, none⟩) ∧ TrA w V l x bl1 ∧ TrA w V r y bl2
section
variable {w w' : World} {V W : List Int → List Int}
theorem NdA.lt {t : Tr} {b : Nat} {x y : Option Addr} (h : NdA w V t b x y) : b < w.heap.size := by
  obtain ⟨n, h1, _⟩ := h
  exact h1.lt
theorem NdA.chg {t : Tr} {b : Nat} {x y : Option Addr} {S : List Nat} (h : NdA w V t b x y) (hc : Chg w w' S) (hb : b ∉ S) : NdA w' V t b x y := by
  obtain ⟨n, h1, h2⟩ := h
  exact ⟨n, h1.chg hc hb, h2⟩
theorem NdA.congr {t : Tr} {b : Nat} {x y : Option Addr} (h : NdA w V t b x y) (hv : ∀ k ∈ t.keys, V k = W k) : NdA w W t b x y := by
  obtain ⟨n, h1, h2, h3, h4, h5, h6, h7, h8⟩ := h
  refine ⟨n, h1, h2, h3, h4, h5, h6, fun ht => ?_, fun hk => ?_⟩
  · rw [h7 ht, hereH_congr hv]
  · obtain ⟨lv, e1, e2⟩ := h8 hk
    exact ⟨lv, e1, by rw [e2, aboveH_congr hv]⟩
theorem TrA.head : ∀ {t : Tr} {b : Nat} {bl : List Nat}, TrA w V t b bl → b ∈ bl
  | .lf _, b, bl, h => by rw [h.1]; simp
  | .nd _ _ _ _, b, bl, h => by
    obtain ⟨x, y, bl1, bl2, e, _⟩ := h
    rw [e]; simp
theorem TrA.lt : ∀ {t : Tr} {b : Nat} {bl : List Nat}, TrA w V t b bl → ∀ g ∈ bl, g < w.heap.size
  | .lf _, b, bl, h, g, hg => by
    obtain ⟨e, x, y, hn⟩ := h
    rw [e] at hg
    obtain rfl : g = b := by simpa using hg
    exact hn.lt
  | .nd _ _ l r, b, bl, h, g, hg => by
    obtain ⟨x, y, bl1, bl2, e, hn, hl, hr⟩ := h
    rw [e] at hg
    rcases List.mem_cons.1 hg with rfl | hg
    · exact hn.lt
    · rcases List.mem_append.1 hg with hg | hg
      · exact hl.lt g hg
      · exact hr.lt g hg
theorem TrA.chg {S : List Nat} (hc : Chg w w' S) : ∀ {t : Tr} {b : Nat} {bl : List Nat}, TrA w V t b bl → (∀ g ∈ bl, g ∉ S) → TrA w' V t b bl
  | .lf _, b, bl, h, hs => by
    obtain ⟨e, x, y, hn⟩ := h
    exact ⟨e, x, y, hn.chg hc (hs b (by rw [e]; simp))⟩
  | .nd _ _ l r, b, bl, h, hs => by
    obtain ⟨x, y, bl1, bl2, e, hn, hl, hr⟩ := h
    exact ⟨x, y, bl1, bl2, e, hn.chg hc (hs b (by rw [e]; simp)), hl.chg hc (fun g hg => hs g (by rw [e]; simp [hg])), hr.chg hc (fun g hg => hs g (by rw [e]; simp [hg]))⟩
theorem TrA.on {t : Tr} {b : Nat} {bl : List Nat} (h : TrA w V t b bl) (hb : Below w.heap.size w w') : TrA w' V t b bl := h.chg (Chg.below hb (Nat.le_refl _) []) (fun _ _ hm => by cases hm)
theorem TrA.congr : ∀ {t : Tr} {b : Nat} {bl : List Nat}, TrA w V t b bl → (∀ k ∈ t.keys, V k = W k) → TrA w W t b bl
  | .lf _, b, bl, h, hv => by
    obtain ⟨e, x, y, hn⟩ := h
    exact ⟨e, x, y, hn.congr hv⟩
  | .nd _ _ l r, b, bl, h, hv => by
    obtain ⟨x, y, bl1, bl2, e, hn, hl, hr⟩ := h
    exact ⟨x, y, bl1, bl2, e, hn.congr hv, hl.congr (fun k hk => hv k (List.mem_append.2 (.inl hk))), hr.congr (fun k hk => hv k (List.mem_append.2 (.inr hk)))⟩
/-- The node at a tree's own block. -/
theorem TrA.node : ∀ {t : Tr} {b : Nat} {bl : List Nat}, TrA w V t b bl → ∃ x y, NdA w V t b x y
  | .lf _, _, _, h => h.2
  | .nd _ _ _ _, _, _, h => by
    obtain ⟨x, y, bl1, bl2, e, hn, _⟩ := h
    exact ⟨_, _, hn⟩
/-- The tree with another node in its own block, its branches as they were. -/
theorem TrA.renode {S : List Nat} : ∀ {t : Tr} {b : Nat} {bl : List Nat}, TrA w V t b bl → bl.Nodup → Chg w w' S → (∀ g ∈ S, g < w.heap.size → g = b) → (∀ x y, NdA w V t b x y → NdA w' V t b x y) → TrA w' V t b bl
  | .lf _, b, bl, h, _, _, _, hn => by
    obtain ⟨e, x, y, h1⟩ := h
    exact ⟨e, x, y, hn _ _ h1⟩
  | .nd _ _ l r, b, bl, h, nd, hc, hs, hn => by
    obtain ⟨x, y, bl1, bl2, e, h1, hl, hr⟩ := h
    rw [e] at nd
    have hb := (List.nodup_cons.1 nd).1
    have hx : ∀ g, g ∈ bl1 ++ bl2 → g < w.heap.size → g ∉ S := fun g hg hlt hm => hb (by rw [← hs g hm hlt]; exact hg)
    exact ⟨x, y, bl1, bl2, e, hn _ _ h1, hl.chg hc (fun g hg => hx g (by simp [hg]) (hl.lt g hg)), hr.chg hc (fun g hg => hx g (by simp [hg]) (hr.lt g hg))⟩
end
/-- A map: its own block, the block of its pairs. -/
structure MpA (w : World) (p m : Nat) (E : List En) : Prop where
  cell : w.cell? ⟨p, 0, none⟩ = some (.map (some m))
  mp : ∃ c, w.heap[m]? = some (.map (mes E) c)
theorem MpA.chg {w w' : World} {p m : Nat} {E : List En} {S : List Nat} (h : MpA w p m E) (hc : Chg w w' S) (hp : p ∉ S) (hm : m ∉ S) : MpA w' p m E := by
  obtain ⟨c, h2⟩ := h.mp
  refine ⟨?_, c, ?_⟩
  · rw [World.cell?_of_block (w := w) (hc.block p (World.block_lt_of_cell? w _ h.cell) hp)]; exact h.cell
  · rw [hc.block m (Array.getElem?_eq_some_iff.1 h2).1 hm]; exact h2
theorem MpA.on {w w' : World} {p m : Nat} {E : List En} (h : MpA w p m E) (hb : Below w.heap.size w w') : MpA w' p m E := h.chg (Chg.below hb (Nat.le_refl _) []) (by simp) (by simp)
/-- All keys and values are hashes. -/
structure EnB (E : List En) : Prop where
  ok : EnOk E
  kb : ∀ e ∈ E, Bytes e.k
  vb : ∀ e ∈ E, Bytes e.v
theorem vOf_ok {E : List En} (h : EnB E) (K : List Int) : (vOf E K).length = 32 ∧ Bytes (vOf E K) := by
  unfold vOf
  cases hf : fndE K E 0 with
  | none => exact ⟨zero32_len, zero32_bytes⟩
  | some x =>
    obtain ⟨i, v⟩ := x
    obtain ⟨n, e, _, h2, _, h4⟩ := fnd_spec hf
    have hm : e ∈ E := List.mem_of_getElem? h2
    show v.length = 32 ∧ Bytes v
    rw [← h4]
    exact ⟨(h.ok e hm).2, h.vb e hm⟩
/-- What the reckoning of a tree asks of a world. -/
structure EvA (w : World) (p m : Nat) (E : List En) (t : Tr) (b : Nat) (bl : List Nat) : Prop where
  tbl : Tbl w
  mp : MpA w p m E
  tr : TrA w (vOf E) t b bl
theorem EvA.on {w w' : World} {p m : Nat} {E : List En} {t : Tr} {b : Nat} {bl : List Nat} (h : EvA w p m E t b bl) (hb : Below w.heap.size w w') : EvA w' p m E t b bl := ⟨h.tbl.on hb h.tbl.pos, h.mp.on hb, h.tr.on hb⟩
/-- The blocks lie apart. -/
structure ApA (p m : Nat) (bl : List Nat) : Prop where
  nd : bl.Nodup
  p : p ∉ bl
  m : m ∉ bl
  g : 1 ∉ bl
def HrQ (w : World) (E : List En) (t : Tr) (b : Nat) (bl : List Nat) (H : List Int) (e : Ending) (w' : World) : Prop := e = .returned (.agg (hc H).toArray) ∧ Chg w w' bl ∧ TrA w' (vOf E) t b bl
def HrP (E : List En) (t : Tr) : Prop := ∀ (w : World) (p m b : Nat) (bl : List Nat), EvA w p m E t b bl → ApA p m bl → Calls Tryd.prog 60 #[.pointer (some ⟨p, 0, none⟩), .pointer (some ⟨b, 0, none⟩)] w (HrQ w E t b bl (hereH (vOf E) t))
def ClP (E : List En) (t : Tr) : Prop := ∀ (w : World) (p m b lv : Nat) (bl : List Nat), EvA w p m E t b bl → ApA p m bl → lv ≤ t.fork → Calls Tryd.prog 44 #[.pointer (some ⟨p, 0, none⟩), .pointer (some ⟨b, 0, none⟩), .int .i64 (lv : Int)] w (HrQ w E t b bl (aboveH (vOf E) t lv))
def AbP (E : List En) (t : Tr) : Prop := ∀ (w : World) (p m b lv : Nat) (bl : List Nat), EvA w p m E t b bl → ApA p m bl → lv ≤ t.fork → Calls Tryd.prog 40 #[.pointer (some ⟨p, 0, none⟩), .pointer (some ⟨b, 0, none⟩), .int .i64 (lv : Int)] w (HrQ w E t b bl (aboveH (vOf E) t lv))
end Go.Proofs.YtjlodnecdngdfaaDoor
namespace Go.Proofs.YtjlodnecdngdfaaDoor
open Go.RowKit
set_option maxRecDepth 100000

def vR : List En → List Int → List Int
  | [], _ => zero32
  | e :: E, K => if K = e.k then e.v else vR E K
theorem fnd_vR (K : List Int) : ∀ (E : List En) (j : Nat), ((fndE K E j).map (·.2)).getD zero32 = vR E K
  | [], _ => rfl
  | e :: E, j => by
    unfold fndE vR
    by_cases h : K = e.k
    · rw [if_pos h, if_pos h]; rfl
    · rw [if_neg h, if_neg h, fnd_vR K E (j + 1)]
theorem vOf_vR (E : List En) (K : List Int) : vOf E K = vR E K := fnd_vR K E 0
theorem vR_none {K : List Int} : ∀ {E : List En}, (∀ x ∈ E, x.k ≠ K) → vR E K = zero32
  | [], _ => rfl
  | e :: E, h => by
    unfold vR
    rw [if_neg (fun hk => h e (by simp) hk.symm)]
    exact vR_none (fun x hx => h x (List.mem_cons_of_mem _ hx))
theorem vR_skip {K : List Int} {e : En} (hk : e.k ≠ K) {B : List En} : ∀ {A : List En}, vR (A ++ e :: B) K = vR (A ++ B) K
  | [] => by
    show vR (e :: B) K = vR B K
    conv => lhs; unfold vR
    rw [if_neg (fun h => hk h.symm)]
  | a :: A => by
    show vR (a :: (A ++ e :: B)) K = vR (a :: (A ++ B)) K
    unfold vR
    rw [vR_skip hk]
theorem vR_at {e : En} {B : List En} : ∀ {A : List En}, (∀ x ∈ A, x.k ≠ e.k) → vR (A ++ e :: B) e.k = e.v
  | [], _ => by
    show vR (e :: B) e.k = e.v
    unfold vR
    rw [if_pos rfl]
  | a :: A, h => by
    show vR (a :: (A ++ e :: B)) e.k = e.v
    unfold vR
    rw [if_neg (fun hk => h a (by simp) hk.symm)]
    exact vR_at (fun x hx => h x (List.mem_cons_of_mem _ hx))
theorem vR_app {K : List Int} {B : List En} : ∀ {A : List En}, (∀ x ∈ A, x.k ≠ K) → vR (A ++ B) K = vR B K
  | [], _ => rfl
  | a :: A, h => by
    show vR (a :: (A ++ B)) K = _
    conv => lhs; unfold vR
    rw [if_neg (fun hk => h a (by simp) hk.symm)]
    exact vR_app (fun x hx => h x (List.mem_cons_of_mem _ hx))
theorem vR_left {K : List Int} {B : List En} : ∀ {A : List En}, (∀ x ∈ B, x.k ≠ K) → vR (A ++ B) K = vR A K
  | [], h => vR_none h
  | a :: A, h => by
    show vR (a :: (A ++ B)) K = vR (a :: A) K
    unfold vR
    rw [vR_left h]
theorem vR_mem {K : List Int} : ∀ {E : List En}, (∃ x ∈ E, x.k = K) → ∃ x ∈ E, x.k = K ∧ vR E K = x.v
  | [], h => by obtain ⟨x, hx, _⟩ := h; cases hx
  | e :: E, h => by
    unfold vR
    by_cases hk : K = e.k
    · rw [if_pos hk]; exact ⟨e, by simp, hk.symm, rfl⟩
    · rw [if_neg hk]
      obtain ⟨x, hx, hxk⟩ := h
      rcases List.mem_cons.1 hx with rfl | hx
      · exact absurd hxk.symm hk
      · obtain ⟨y, hy, h1, h2⟩ := vR_mem ⟨x, hx, hxk⟩
        exact ⟨y, List.mem_cons_of_mem _ hy, h1, h2⟩
theorem fnd_none {K : List Int} : ∀ {E : List En} {j : Nat}, fndE K E j = none → ∀ x ∈ E, x.k ≠ K
  | [], _, _, x, hx => by cases hx
  | e :: E, j, h, x, hx => by
    unfold fndE at h
    by_cases hk : K = e.k
    · rw [if_pos hk] at h; cases h
    · rw [if_neg hk] at h
      rcases List.mem_cons.1 hx with rfl | hx
      · exact fun e => hk e.symm
      · exact fnd_none h x hx
theorem fnd_split {K V : List Int} : ∀ {E : List En} {j i : Nat}, fndE K E j = some (i, V) → ∃ A e B, E = A ++ e :: B ∧ e.k = K ∧ e.v = V ∧ i = j + A.length ∧ ∀ x ∈ A, x.k ≠ K
  | [], _, _, h => by cases h
  | e :: E, j, i, h => by
    unfold fndE at h
    by_cases hk : K = e.k
    · rw [if_pos hk] at h
      simp only [Option.some.injEq, Prod.mk.injEq] at h
      exact ⟨[], e, E, rfl, hk.symm, h.2, by simp [h.1], fun x hx => by cases hx⟩
    · rw [if_neg hk] at h
      obtain ⟨A, e', B, h1, h2, h3, h4, h5⟩ := fnd_split h
      exact ⟨e :: A, e', B, by rw [h1]; rfl, h2, h3, by rw [h4]; simp; omega, fun x hx => by
        rcases List.mem_cons.1 hx with rfl | hx
        · exact fun e => hk e.symm
        · exact h5 x hx⟩
/-- The pairs of a map: hashes, unlike keys, no value zero. -/
structure EnW (E : List En) : Prop where
  b : EnB E
  nd : (E.map (·.k)).Nodup
  nz : ∀ e ∈ E, e.v ≠ zero32
theorem EnW.key {E : List En} (h : EnW E) {K : List Int} : (∃ x ∈ E, x.k = K) ↔ vOf E K ≠ zero32 := by
  rw [vOf_vR]
  constructor
  · intro hm
    obtain ⟨x, hx, _, h2⟩ := vR_mem hm
    rw [h2]; exact h.nz x hx
  · intro hn
    refine Classical.byContradiction fun hm => hn (vR_none fun x hx hk => hm ⟨x, hx, hk⟩)
theorem EnW.nil : EnW [] := ⟨⟨fun e h => (by cases h), fun e h => (by cases h), fun e h => (by cases h)⟩, List.nodup_nil, fun e h => (by cases h)⟩
/-- A new key. -/
theorem EnW.more {E : List En} (h : EnW E) {K V : List Int} (c : Nat) (hK : KyOk K) (lV : V.length = 32) (bV : Bytes V) (hz : V ≠ zero32) (hn : fndE K E 0 = none) :
    EnW (E ++ [⟨K, V, c⟩]) ∧ ∀ k, vOf (E ++ [⟨K, V, c⟩]) k = if k = K then V else vOf E k := by
  have hno := fnd_none hn
  refine ⟨⟨⟨fun e he => ?_, fun e he => ?_, fun e he => ?_⟩, ?_, fun e he => ?_⟩, fun k => ?_⟩
  · rcases List.mem_append.1 he with he | he
    · exact h.b.ok e he
    · obtain rfl := List.mem_singleton.1 he; exact ⟨hK.len, lV⟩
  · rcases List.mem_append.1 he with he | he
    · exact h.b.kb e he
    · obtain rfl := List.mem_singleton.1 he; exact hK.by_
  · rcases List.mem_append.1 he with he | he
    · exact h.b.vb e he
    · obtain rfl := List.mem_singleton.1 he; exact bV
  · rw [List.map_append, List.nodup_append]
    refine ⟨h.nd, by simp, fun a ha b hb e => ?_⟩
    obtain ⟨x, hx, rfl⟩ := List.mem_map.1 ha
    simp at hb
    exact hno x hx (by rw [e, hb])
  · rcases List.mem_append.1 he with he | he
    · exact h.nz e he
    · obtain rfl := List.mem_singleton.1 he; exact hz
  · rw [vOf_vR, vOf_vR]
    by_cases hk : k = K
    · rw [if_pos hk, hk, vR_app hno]
      unfold vR
      rw [if_pos rfl]
    · rw [if_neg hk, vR_left (fun x hx => by obtain rfl := List.mem_singleton.1 hx; exact fun e => hk e.symm)]
/-- A key taken away. -/
theorem EnW.gone {E : List En} (h : EnW E) {K V : List Int} {i : Nat} (hn : fndE K E 0 = some (i, V)) :
    EnW (E.eraseIdx i) ∧ (∀ k, vOf (E.eraseIdx i) k = if k = K then zero32 else vOf E k) ∧ (E.eraseIdx i).length + 1 = E.length := by
  obtain ⟨A, e, B, rfl, hk, hv, hi, hA⟩ := fnd_split hn
  obtain rfl : i = A.length := by omega
  have he : (A ++ e :: B).eraseIdx A.length = A ++ B := by
    rw [List.eraseIdx_append_of_length_le (Nat.le_refl _)]; simp
  rw [he]
  have hsub : ∀ x ∈ A ++ B, x ∈ A ++ e :: B := fun x hx => by
    rcases List.mem_append.1 hx with hx | hx <;> simp [hx]
  have hnd := h.nd
  rw [List.map_append, List.map_cons, List.nodup_append] at hnd
  obtain ⟨n1, n2, n3⟩ := hnd
  obtain ⟨n4, n5⟩ := List.nodup_cons.1 n2
  have hB : ∀ x ∈ B, x.k ≠ K := fun x hx e' => n4 (by rw [hk, ← e']; exact List.mem_map.2 ⟨x, hx, rfl⟩)
  refine ⟨⟨⟨fun x hx => h.b.ok x (hsub x hx), fun x hx => h.b.kb x (hsub x hx), fun x hx => h.b.vb x (hsub x hx)⟩, ?_, fun x hx => h.nz x (hsub x hx)⟩, fun k => ?_, by simp; omega⟩
  · rw [List.map_append, List.nodup_append]
    exact ⟨n1, n5, fun a ha b hb => n3 a ha b (List.mem_cons_of_mem _ hb)⟩
  · rw [vOf_vR, vOf_vR]
    by_cases hk' : k = K
    · rw [if_pos hk', hk', vR_app hA, vR_none hB]
    · rw [if_neg hk', vR_skip (fun e' => hk' (by rw [← hk, e']))]
/-- A key with another value. -/
theorem EnW.over {E : List En} (h : EnW E) {K V V0 : List Int} {i : Nat} (lV : V.length = 32) (bV : Bytes V) (hz : V ≠ zero32) (hn : fndE K E 0 = some (i, V0)) :
    EnW (E.modify i fun e => { e with v := V }) ∧ (∀ k, vOf (E.modify i fun e => { e with v := V }) k = if k = K then V else vOf E k) ∧ (E.modify i fun e => { e with v := V }).map (·.k) = E.map (·.k) := by
  obtain ⟨A, e, B, rfl, hk, hv, hi, hA⟩ := fnd_split hn
  obtain rfl : i = A.length := by omega
  have he : ∀ A : List En, (A ++ e :: B).modify A.length (fun e => { e with v := V }) = A ++ { e with v := V } :: B := by
    intro A
    induction A with
    | nil => rfl
    | cons a A ih => rw [List.cons_append, List.length_cons, List.modify_succ_cons, ih]; rfl
  rw [he A]
  have hor : ∀ x ∈ A ++ { e with v := V } :: B, x ∈ A ++ e :: B ∨ x = { e with v := V } := fun x hx => by
    rcases List.mem_append.1 hx with hx | hx
    · exact .inl (by simp [hx])
    · rcases List.mem_cons.1 hx with hx | hx
      · exact .inr hx
      · exact .inl (by simp [hx])
  have hee : e ∈ A ++ e :: B := by simp
  refine ⟨⟨⟨fun x hx => ?_, fun x hx => ?_, fun x hx => ?_⟩, ?_, fun x hx => ?_⟩, fun k => ?_, by simp⟩
  · rcases hor x hx with hx | rfl
    · exact h.b.ok x hx
    · exact ⟨(h.b.ok e hee).1, lV⟩
  · rcases hor x hx with hx | rfl
    · exact h.b.kb x hx
    · exact h.b.kb e hee
  · rcases hor x hx with hx | rfl
    · exact h.b.vb x hx
    · exact bV
  · have := h.nd
    simpa using this
  · rcases hor x hx with hx | rfl
    · exact h.nz x hx
    · exact hz
  · rw [vOf_vR, vOf_vR]
    by_cases hk' : k = K
    · rw [if_pos hk', hk']
      subst hk
      exact vR_at (e := { e with v := V }) (B := B) (A := A) (fun x hx => hA x hx)
    · rw [if_neg hk', vR_skip (e := { e with v := V }) (fun e' => hk' (by rw [← hk]; exact e'.symm)), vR_skip (e := e) (fun e' => hk' (by rw [← hk, e']))]
/-- Each pair came at its own time. -/
structure EnC (E : List En) (c : Nat) : Prop where
  lt : ∀ e ∈ E, e.b < c
  nd : (E.map (·.b)).Nodup
theorem EnC.nil (c : Nat) : EnC [] c := ⟨fun e h => (by cases h), List.nodup_nil⟩
theorem EnC.more {E : List En} {c : Nat} (h : EnC E c) (K V : List Int) : EnC (E ++ [⟨K, V, c⟩]) (c + 1) := by
  refine ⟨fun e he => ?_, ?_⟩
  · rcases List.mem_append.1 he with he | he
    · have := h.lt e he; omega
    · obtain rfl := List.mem_singleton.1 he; exact Nat.lt_succ_self c
  · rw [List.map_append, List.nodup_append]
    refine ⟨h.nd, by simp, fun a ha b hb e => ?_⟩
    obtain ⟨x, hx, rfl⟩ := List.mem_map.1 ha
    simp at hb
    have := h.lt x hx
    omega
theorem EnC.gone {E : List En} {c : Nat} (h : EnC E c) (i : Nat) : EnC (E.eraseIdx i) c :=
  ⟨fun e he => h.lt e (List.mem_of_mem_eraseIdx he), List.Sublist.nodup ((List.eraseIdx_sublist E i).map _) h.nd⟩
theorem EnC.over {E : List En} {c : Nat} (h : EnC E c) (i : Nat) (V : List Int) : EnC (E.modify i fun e => { e with v := V }) c := by
  have hm : ∀ (l : List En) (i : Nat), (l.modify i fun e => { e with v := V }).map (·.b) = l.map (·.b) := by
    intro l
    induction l with
    | nil => intro i; cases i <;> rfl
    | cons a l ih =>
      intro i
      cases i with
      | zero => rfl
      | succ i => rw [List.modify_succ_cons, List.map_cons, ih i]; rfl
  refine ⟨fun e he => ?_, by rw [hm]; exact h.nd⟩
  have : e.b ∈ (E.modify i fun e => { e with v := V }).map (·.b) := List.mem_map.2 ⟨e, he, rfl⟩
  rw [hm] at this
  obtain ⟨x, hx, hb⟩ := List.mem_map.1 this
  rw [← hb]
  exact h.lt x hx
end Go.Proofs.YtjlodnecdngdfaaDoor
namespace Go.Proofs.YtjlodnecdngdfaaDoor
open Go.RowKit
set_option maxRecDepth 100000

theorem bits_xor_u8 (a b : Nat) (ha : a < 256) (hb : b < 256) : bits .xor .u8 (a : Int) (b : Int) = ((a ^^^ b : Nat) : Int) := by
  have hx : a ^^^ b < 2 ^ 8 := Nat.xor_lt_two_pow (by omega) (by omega)
  have h1 : (BitVec.ofInt 8 (a : Int)).toNat = a := by
    rw [BitVec.ofInt_natCast, BitVec.toNat_ofNat]; exact Nat.mod_eq_of_lt (by omega)
  have h2 : (BitVec.ofInt 8 (b : Int)).toNat = b := by
    rw [BitVec.ofInt_natCast, BitVec.toNat_ofNat]; exact Nat.mod_eq_of_lt (by omega)
  show IntKind.u8.wrap ((BitVec.ofInt 8 (a : Int) ^^^ BitVec.ofInt 8 (b : Int)).toNat : Int) = _
  rw [BitVec.toNat_xor, h1, h2]
  rw [IntKind.wrap_u8]
  omega
theorem len8_any (x : Int) (w : World) (h0 : 0 ≤ x) (h1 : x ≤ 255) : Calls Tryd.prog 82 #[.int .u8 x] w fun e w' => e = .returned (.int .i64 (Lib.bitLen x.toNat)) ∧ w' = w := by
  rw [← Lib.len8_int x h0 h1]
  go_enter Tryd.func82, Tryd.ntmps82
  go_wp2
  go_ret
  exact ⟨by kernel_rfl, rfl⟩
theorem lz8_any (x : Int) (w : World) (h0 : 0 ≤ x) (h1 : x ≤ 255) : Calls Tryd.prog 59 #[.int .u8 x] w fun e w' => e = .returned (.int .i64 (8 - (Lib.bitLen x.toNat : Int))) ∧ w' = w := by
  have hb := Lib.bitLen_le8' x h0 h1
  have w1 : IntKind.i64.wrap (8 - (Lib.bitLen x.toNat : Int)) = 8 - (Lib.bitLen x.toNat : Int) := IntWalk.i64_in _ (by omega)
  go_enter Tryd.func59, Tryd.ntmps59
  go_wp2_with fail
  refine (len8_any x _ h0 h1).mono ?_
  rintro e w1 ⟨rfl, h⟩
  obtain rfl := h.symm
  clear h
  go_wp2_with fail
  go_ret
  exact ⟨rfl, rfl⟩
theorem lz_bits : ∀ z : Fin 256, z.val ≠ 0 → 8 - Lib.bitLen z.val < 8 ∧ z.val / 2 ^ (7 - (8 - Lib.bitLen z.val)) % 2 = 1 ∧ ∀ i : Fin 8, i.val < 8 - Lib.bitLen z.val → z.val / 2 ^ (7 - i.val) % 2 = 0 := by decide +kernel
theorem xor_bit (a b k : Nat) : ((a ^^^ b) / 2 ^ k % 2 = 0 ↔ a / 2 ^ k % 2 = b / 2 ^ k % 2) := by
  have h := Nat.testBit_xor a b k
  simp only [Nat.testBit_eq_decide_div_mod_eq] at h
  rcases Nat.mod_two_eq_zero_or_one ((a ^^^ b) / 2 ^ k) with e | e <;> rcases Nat.mod_two_eq_zero_or_one (a / 2 ^ k) with e1 | e1 <;> rcases Nat.mod_two_eq_zero_or_one (b / 2 ^ k) with e2 | e2 <;> simp [e, e1, e2] at h ⊢
theorem bitI_byte {K : List Int} {i j a : Nat} (h : K.getD i 0 = (a : Int)) (hj : j < 8) : bitI K (8 * i + j) = ((a / 2 ^ (7 - j) % 2 : Nat) : Int) := by
  unfold bitI
  rw [show (8 * i + j) / 8 = i by omega, show (8 * i + j) % 8 = j by omega, h, Int.natCast_emod, Int.natCast_ediv, Int.natCast_pow]
  rfl
theorem agree_byte {K G : List Int} {i a b : Nat} (hK : K.getD i 0 = (a : Int)) (hG : G.getD i 0 = (b : Int)) (h : AgreeB (8 * i) K G) {m : Nat} (hm : m ≤ 8) (hb : ∀ j, j < m → (a ^^^ b) / 2 ^ (7 - j) % 2 = 0) : AgreeB (8 * i + m) K G := fun n hn => by
  by_cases h1 : n < 8 * i
  · exact h n h1
  · obtain ⟨j, rfl⟩ : ∃ j, n = 8 * i + j := ⟨n - 8 * i, by omega⟩
    rw [bitI_byte hK (by omega), bitI_byte hG (by omega), (xor_bit a b (7 - j)).1 (hb j (by omega))]
set_option maxHeartbeats 4000000 in
theorem differ_any {w : World} {K G : List Int} (hK : KyOk K) (hG : KyOk G) : Calls Tryd.prog 42 #[.agg (hc K).toArray, .agg (hc G).toArray] w fun e w' => e = .returned (.int .i64 (dif K G : Int)) ∧ Below w.heap.size w w' := by
  have b1 : Below w.heap.size w (w.alloc (.cells (hc K).toArray 24)) := (Below.refl _ _).alloc (Nat.le_refl _) _
  have b2 : Below w.heap.size w ((w.alloc (.cells (hc K).toArray 24)).alloc (.cells (hc G).toArray 24)) := b1.alloc b1.size _
  have hz : (w.alloc (.cells (hc K).toArray 24)).heap.size = w.heap.size + 1 := by simp
  have H0 := Lib.hid ((HashAt.new w K).alloc (.cells (hc G).toArray 24))
  have H1 := HashAt.new (w.alloc (.cells (hc K).toArray 24)) G
  rw [hz] at H1
  have H1 := Lib.hid H1
  have B2 := Lib.hid b2
  have OK := Lib.hid hK
  have OG := Lib.hid hG
  have HQ := Lib.hid (rfl : dif K G = dif K G)
  obtain ⟨D, hD⟩ : ∃ D, dif K G = D := ⟨_, rfl⟩
  have HD := Lib.hid hD
  rw [hD]
  clear hK hG b1 b2 hz hD HQ
  go_enter Tryd.func42, Tryd.ntmps42
  go_upto_region 1 with fail
  obtain ⟨ka, hka⟩ : ∃ z, w.heap.size = z := ⟨_, rfl⟩
  have HKA := Lib.hid hka
  rw [hka] at H0 H1 ⊢
  generalize (w.alloc (.cells (hc K).toArray 24)).alloc (.cells (hc G).toArray 24) = w2 at *
  clear hka
  have A0 : Hid (AgreeB (8 * 0) K G) := fun i hi => by omega
  go_wp2_with fail
  go_loopw [5, 6, 7] (fun iv xv kv wr => ∃ i : Nat, kv = .int .i64 (i : Int) ∧ i ≤ 32 ∧ Hid (Below w.heap.size w wr) ∧ Hid (HashAt wr ka K) ∧ Hid (HashAt wr (ka + 1) G) ∧ Hid (AgreeB (8 * i) K G)) (fun _ _ kv _ => 32 - (intOf kv).toNat)
  case atStart => exact ⟨0, rfl, by omega, B2, H0, H1, A0⟩
  case round =>
    clear B2 H0 H1 A0
    obtain ⟨i, rfl, hi, hB, hH0, hH1, hA⟩ := hrel
    by_cases hlt : i < 32
    · have e1 : decide ((i : Int) < 32) = true := decide_eq_true (by omega)
      have ca := hH0.out.cell (i := i) (by have := OK.out.len; omega)
      have cb := hH1.out.cell (i := i) (by have := OG.out.len; omega)
      have ba := OK.out.by_.getD i
      have bb := OG.out.by_.getD i
      obtain ⟨a, ha⟩ : ∃ x : Nat, K.getD i 0 = (x : Int) := ⟨(K.getD i 0).toNat, by omega⟩
      obtain ⟨b, hb⟩ : ∃ x : Nat, G.getD i 0 = (x : Int) := ⟨(G.getD i 0).toNat, by omega⟩
      have HA := Lib.hid ha
      have HBy := Lib.hid hb
      rw [ha] at ca ba
      rw [hb] at cb bb
      have hx := bits_xor_u8 a b (by omega) (by omega)
      have hz8 : a ^^^ b < 256 := Nat.xor_lt_two_pow (n := 8) (by omega) (by omega)
      obtain ⟨z, hzz⟩ : ∃ z, a ^^^ b = z := ⟨_, rfl⟩
      have HZ := Lib.hid hzz
      rw [hzz] at hx hz8
      have lK := hc_len K
      have lG := hc_len G
      have l1 := OK.out.len
      have l2 := OG.out.len
      clear ha hb hzz
      go_wp2_with fail
      go_quiet (fail)
      have hB' := Lib.hid (hB.out.trans ((show Below wr.heap.size wr (wr.drewN nq) from ⟨rfl, rfl, rfl, Nat.le_refl _, fun _ _ => rfl⟩).mono hB.out.size))
      have hH0' : Hid (HashAt (wr.drewN nq) ka K) := hH0.out
      have hH1' : Hid (HashAt (wr.drewN nq) (ka + 1) G) := hH1.out
      clear hB hH0 hH1 ca cb
      generalize wr.drewN nq = w3 at *
      by_cases hz0 : z = 0
      · have zn : ((z : Int) != 0) = false := by simp [hz0]
        have hA2 := Lib.hid (agree_byte HA.out HBy.out hA.out (m := 8) (by omega) (fun j hj => by rw [HZ.out, hz0]; simp))
        clear hz0
        go_wp2_with fail
        go_roundw
        case rel => exact ⟨i + 1, by go_num, by omega, hB', hH0', hH1', by rw [show 8 * (i + 1) = 8 * i + 8 by omega]; exact hA2⟩
        case measure => simp [intOf]; omega
      · have zn : ((z : Int) != 0) = true := by simp [hz0]
        have w1 : IntKind.i64.wrap (8 * (i : Int)) = 8 * (i : Int) := IntWalk.i64_in _ (by omega)
        obtain ⟨l1', l2', l3'⟩ := lz_bits ⟨z, hz8⟩ hz0
        have hD2 : D = 8 * i + (8 - Lib.bitLen z) := by
          rw [← HD.out]
          refine dif_is (agree_byte HA.out HBy.out hA.out (m := 8 - Lib.bitLen z) (by omega) (fun j hj => by rw [HZ.out]; exact l3' ⟨j, by omega⟩ hj)) (by simp only at l1'; omega) (fun e => ?_)
          rw [bitI_byte HA.out l1', bitI_byte HBy.out l1'] at e
          have := (xor_bit a b (7 - (8 - Lib.bitLen z))).2 (by exact_mod_cast e)
          rw [HZ.out] at this
          have l2x : z / 2 ^ (7 - (8 - Lib.bitLen z)) % 2 = 1 := l2'
          omega
        have hb8 : Lib.bitLen z ≤ 8 := by have := Lib.bitLen_le8 ⟨z, hz8⟩; exact this
        have HD2 := Lib.hid hD2
        have w2' : IntKind.i64.wrap (8 * (i : Int) + (8 - (Lib.bitLen z : Int))) = (D : Int) := by
          rw [hD2, show 8 * (i : Int) + (8 - (Lib.bitLen z : Int)) = ((8 * i + (8 - Lib.bitLen z) : Nat) : Int) by omega]
          exact IntWalk.i64_in _ (by omega)
        clear l1' l2' l3' hD2 hz0
        go_wp2_with fail
        refine (lz8_any (z : Int) _ (by omega) (by omega)).mono ?_
        rintro e wz ⟨rfl, hwz⟩
        obtain rfl := hwz.symm
        clear hwz
        rw [show ((z : Int)).toNat = z from rfl]
        go_wp2_with fail
        go_ret
        exact ⟨rfl, hB'.out⟩
    · have e1 : decide ((i : Int) < 32) = false := decide_eq_false (by omega)
      have hD2 : Hid (D = 256) := by
        show _ = _
        rw [← HD.out]
        have h1 : AgreeB 256 K G := by
          have := hA.out
          rw [show 8 * i = 256 by omega] at this
          exact this
        have := dif_of h1 (Nat.le_refl _)
        have := dif_le K G
        omega
      go_wp2_with fail
      go_ret
      exact ⟨by rw [hD2.out]; rfl, hB.out⟩
end Go.Proofs.YtjlodnecdngdfaaDoor
