/-
  The law's road: all strings that are digested where pairs are put and a proof is held against values.; The document's map, plain: what a key is given; its tree's hash by rising pairs; what stands beside a way.; The document's map: New.
-/
import Derived.Test.YtjlodnecdngdfaaDoorSy2
import Derived.Test.YtjlodnecdngdfaaDoorSy11
import Derived.Test.YtjlodnecdngdfaaDoorSy14
import Derived.Test.YtjlodnecdngdfaaDoorSy15
import Derived.Test.YtjlodnecdngdfaaDoorSy18
import Derived.Test.YtjlodnecdngdfaaDoorSy19
import Derived.Test.YtjlodnecdngdfaaDoorSy21
namespace Go.Proofs.YtjlodnecdngdfaaDoor
open Go.RowKit
set_option maxRecDepth 100000

/-- Strings of a call's own, apart from a map's row. -/
def TxV (N : Nat) (pv : Value) (w wr : World) (v : Value) (Ls : List (List Int)) : Prop := ∃ done, OwF 1 [] PBs (fun g => N ≤ g ∧ pv.ownBlock ≠ some g) w wr 82 v Ls done
section
variable {N : Nat} {w wr w' x : World} {pv pv' v v2 : Value} {Ls M : List (List Int)}
theorem TxV.on (h : TxV N pv w wr v Ls) (hb : Below wr.heap.size wr w') : TxV N pv w w' v Ls := by obtain ⟨d, h⟩ := h; exact ⟨d, h.on PBs_ok hb⟩
theorem TxV.put {pm : Nat} {LP : PrL} (h : TxV N pv w wr v Ls) (hm : RmS w wr pm pv LP) (hp : pm < N) (hc : Chg wr w' (pm :: pv.ownBlock.toList)) (hf : pv'.ownBlock = pv.ownBlock ∨ ∀ g, pv'.ownBlock = some g → wr.heap.size ≤ g) : TxV N pv' w w' v Ls := by
  obtain ⟨d, h⟩ := h
  have hv : ∀ g, v.ownBlock = some g → g ∉ pm :: pv.ownBlock.toList := fun g hg hi => by
    rcases List.mem_cons.1 hi with e | hi
    · exact own_ne h.own hm.blk (by decide) (by rw [hg, e])
    · exact own_two h.own hm.own (by decide) hg (by simpa using hi)
  refine ⟨d, own_chg2 h.own hc hv, fun i hi => ?_, h.fresh, h.below.trans (hc.toBelow h.below.size (fun k hk => ?_))⟩
  · obtain ⟨r, h1, h2, h3⟩ := h.each i hi
    refine ⟨r, h1, h2, PBs_ok.mono (PBs_ok.agr (PBs_ok.lt h3) (w' := w') (fun g hg hlt => hc.block g hlt (fun hi => ?_))) (fun g hg => ⟨⟨hg.1.1.1, fun e => ?_⟩, hg.1.2⟩)⟩
    · rcases List.mem_cons.1 hi with e | hi
      · have := hg.1.1.1; omega
      · exact hg.1.1.2 (by simpa using hi)
    · rcases hf with e2 | e2
      · rw [e2] at e; exact hg.1.1.2 e
      · have := e2 g e; have := hg.2; omega
  · rcases List.mem_cons.1 hk with e | hk
    · rw [e]; exact hm.lo
    · exact hm.fresh k (by simpa using hk)
theorem RmS.grown {pm : Nat} {LP : PrL} {n : Nat} {xs : List Value} (h : RmS w wr pm pv LP) (own : wr.ownsRow 0 82 1 v n xs) (grow : wr.grownBy w' v.ownBlock) (hfr : ∀ g, v.ownBlock = some g → w.heap.size ≤ g) : RmS w w' pm pv LP := by
  have hc : Chg wr w' v.ownBlock.toList := Chg.grown grow (fun g hg => by simp [hg])
  exact h.chg hc (fun hi => own_ne own h.blk (by decide) (by simpa using hi)) (fun g hg hi => own_two own h.own (by decide) (by simpa using hi) hg) (fun g hg => hfr g (by simpa using hg))
end
theorem RmS.start (w : World) : RmS w (w.alloc (.cells #[.slice none 0 0] 43)) w.heap.size (.slice none 0 0) [] :=
  ⟨heap_alloc_new w _, World.ownsRow_nil _ 0 _ 64, fun x h => (by cases h), List.Pairwise.nil, Nat.le_refl _, by simp [Value.ownBlock], (Below.refl _ _).alloc (Nat.le_refl _) _⟩

end Go.Proofs.YtjlodnecdngdfaaDoor
namespace Go.Proofs.YtjlodnecdngdfaaDoor
open Go.RowKit
set_option maxRecDepth 100000

def vP : PrL → List Int → List Int
  | [], _ => zero32
  | x :: L, K => if K = x.1 then x.2 else vP L K
def ksP (L : PrL) : List (List Int) := L.map (·.1)
def NzR (L : PrL) : Prop := ∀ x ∈ L, x.2 ≠ zero32
theorem vP_none {K : List Int} : ∀ {L : PrL}, K ∉ ksP L → vP L K = zero32
  | [], _ => rfl
  | x :: L, h => by
    unfold vP
    rw [if_neg (fun e => h (by simp [ksP, e]))]
    exact vP_none (fun hm => h (by simp only [ksP, List.map_cons, List.mem_cons]; exact .inr hm))
theorem vP_mem {K : List Int} : ∀ {L : PrL}, K ∈ ksP L → ∃ x ∈ L, x.1 = K ∧ vP L K = x.2
  | [], h => by simp [ksP] at h
  | x :: L, h => by
    unfold vP
    by_cases e : K = x.1
    · exact ⟨x, by simp, e.symm, by rw [if_pos e]⟩
    · rw [if_neg e]
      obtain ⟨y, hy, h1, h2⟩ := vP_mem (K := K) (L := L) (by
        simp only [ksP, List.map_cons, List.mem_cons] at h
        exact h.resolve_left e)
      exact ⟨y, List.mem_cons_of_mem _ hy, h1, h2⟩
theorem vP_app {K : List Int} {B : PrL} : ∀ {A : PrL}, K ∉ ksP A → vP (A ++ B) K = vP B K
  | [], _ => rfl
  | x :: A, h => by
    show vP (x :: (A ++ B)) K = _
    conv => lhs; unfold vP
    rw [if_neg (fun e => h (by simp [ksP, e]))]
    exact vP_app (fun hm => h (by simp only [ksP, List.map_cons, List.mem_cons]; exact .inr hm))
theorem vP_left {K : List Int} {B : PrL} : ∀ {A : PrL}, K ∈ ksP A → vP (A ++ B) K = vP A K
  | [], h => by simp [ksP] at h
  | x :: A, h => by
    show vP (x :: (A ++ B)) K = vP (x :: A) K
    unfold vP
    by_cases e : K = x.1
    · rw [if_pos e, if_pos e]
    · rw [if_neg e, if_neg e]
      exact vP_left (by
        simp only [ksP, List.map_cons, List.mem_cons] at h
        exact h.resolve_left e)
theorem ks_mem {L : PrL} {K : List Int} : K ∈ ksP L ↔ ∃ x ∈ L, x.1 = K := by simp [ksP]
theorem srt_nd {L : PrL} (hs : SrtR L) : (ksP L).Nodup := by
  unfold ksP List.Nodup
  rw [List.pairwise_map]
  exact hs.imp (fun {a b} h e => by rw [e, cmp_self] at h; omega)
theorem vP_at {L : PrL} (hs : SrtR L) {x : List Int × List Int} (h : x ∈ L) : vP L x.1 = x.2 := by
  induction L with
  | nil => simp at h
  | cons y L ih =>
    unfold vP
    have hp := List.pairwise_cons.1 hs
    rcases List.mem_cons.1 h with rfl | h
    · rw [if_pos rfl]
    · have hlt := hp.1 x h
      rw [if_neg (fun e => by rw [e, cmp_self] at hlt; omega)]
      exact ih hp.2 h
/-- A Put's values. -/
theorem putR_v {K V : List Int} {L : PrL} (hs : SrtR L) (ok : PrsOk L) (hK : KyOk K) (k : List Int) : vP (putR K V L) k = if k = K then V else vP L k := by
  have hle := fiR_le K L
  have hT : K ∉ ksP (L.take (fiR K L)) := fun hm => by
    obtain ⟨x, hx, e⟩ := ks_mem.1 hm
    have := take_lt hx
    rw [e, cmp_self] at this; omega
  have hD : ∀ n, fiR K L ≤ n → (thR K L = true → fiR K L < n) → K ∉ ksP (L.drop n) := fun n h1 h2 hm => by
    obtain ⟨x, hx, e⟩ := ks_mem.1 hm
    have := drop_gt hs hK ok h1 h2 hx
    rw [e, cmp_self] at this; omega
  have split : ∀ n, L = L.take n ++ L.drop n := fun n => (List.take_append_drop n L).symm
  unfold putR
  by_cases hth : thR K L = true
  · obtain ⟨h1, h2⟩ := thR_key hth
    have e1 : L = L.take (fiR K L) ++ (L.getD (fiR K L) pr0) :: L.drop (fiR K L + 1) := by
      conv => lhs; rw [split (fiR K L)]
      congr 1
      rw [List.drop_eq_getElem_cons h1]
      simp [List.getD, h1]
    have vE : ∀ k, k ≠ K → vP L k = vP (L.take (fiR K L) ++ L.drop (fiR K L + 1)) k := fun k hk => by
      conv => lhs; rw [e1]
      by_cases hm : k ∈ ksP (L.take (fiR K L))
      · rw [vP_left hm, vP_left hm]
      · rw [vP_app hm, vP_app hm]
        conv => lhs; unfold vP
        rw [if_neg (fun e => hk (by rw [e, h2]))]
    by_cases hV : V = zero32
    · rw [if_pos hV, if_pos hth]
      by_cases hk : k = K
      · rw [if_pos hk, hk, vP_app hT, vP_none (hD _ (by omega) (fun _ => by omega)), hV]
      · rw [if_neg hk, vE k hk]
    · rw [if_neg hV, if_pos hth]
      have e : L.set (fiR K L) (K, V) = L.take (fiR K L) ++ (K, V) :: L.drop (fiR K L + 1) := by rw [List.set_eq_take_append_cons_drop, if_pos h1]
      rw [e]
      by_cases hk : k = K
      · rw [if_pos hk, hk, vP_app hT]; unfold vP; rw [if_pos rfl]
      · rw [if_neg hk, vE k hk]
        by_cases hm : k ∈ ksP (L.take (fiR K L))
        · rw [vP_left hm, vP_left hm]
        · rw [vP_app hm, vP_app hm]
          conv => lhs; unfold vP
          rw [if_neg hk]
  · have hN : K ∉ ksP L := fun hm => by
      rw [split (fiR K L)] at hm
      rcases List.mem_append.1 (by simpa [ksP] using hm : K ∈ ksP (L.take (fiR K L)) ++ ksP (L.drop (fiR K L))) with h | h
      · exact hT h
      · exact hD _ (Nat.le_refl _) (fun h => absurd h hth) h
    by_cases hV : V = zero32
    · rw [if_pos hV, if_neg hth]
      by_cases hk : k = K
      · rw [if_pos hk, hk, vP_none hN, hV]
      · rw [if_neg hk]
    · rw [if_neg hV, if_neg hth]
      by_cases hk : k = K
      · rw [if_pos hk, hk, vP_app hT]; unfold vP; rw [if_pos rfl]
      · rw [if_neg hk]
        conv => rhs; rw [split (fiR K L)]
        by_cases hm : k ∈ ksP (L.take (fiR K L))
        · rw [vP_left hm, vP_left hm]
        · rw [vP_app hm, vP_app hm]
          conv => lhs; unfold vP
          rw [if_neg hk]
theorem putR_nz {K V : List Int} {L : PrL} (h : NzR L) : NzR (putR K V L) := by
  intro x hx
  unfold putR at hx
  split at hx
  · split at hx
    · rcases List.mem_append.1 hx with h1 | h1
      · exact h x (List.mem_of_mem_take h1)
      · exact h x (List.mem_of_mem_drop h1)
    · exact h x hx
  · rename_i hV
    split at hx
    · rcases List.mem_or_eq_of_mem_set hx with h1 | h1
      · exact h x h1
      · rw [h1]; exact hV
    · rcases List.mem_append.1 hx with h1 | h1
      · exact h x (List.mem_of_mem_take h1)
      · rcases List.mem_cons.1 h1 with h1 | h1
        · rw [h1]; exact hV
        · exact h x (List.mem_of_mem_drop h1)
theorem key_nz {L : PrL} (hz : NzR L) {K : List Int} : K ∈ ksP L ↔ vP L K ≠ zero32 := by
  constructor
  · intro h
    obtain ⟨x, hx, _, h2⟩ := vP_mem h
    rw [h2]; exact hz x hx
  · intro h
    exact Classical.byContradiction fun hm => h (vP_none hm)
/-- Two rising rows with the same values are the same. -/
theorem srt_same : ∀ {A B : PrL}, SrtR A → SrtR B → NzR A → NzR B → (∀ k, vP A k = vP B k) → A = B
  | [], [], _, _, _, _, _ => rfl
  | [], y :: B, _, hb, _, zb, hv => by
    have h1 := (hv y.1).symm.trans rfl
    rw [vP_at hb (by simp)] at h1
    exact absurd h1 (zb y (by simp))
  | x :: A, [], ha, _, za, _, hv => by
    have h1 := (hv x.1).trans rfl
    rw [vP_at ha (by simp)] at h1
    exact absurd h1 (za x (by simp))
  | x :: A, y :: B, ha, hb, za, zb, hv => by
    have pa := List.pairwise_cons.1 ha
    have pb := List.pairwise_cons.1 hb
    have kk : ∀ k, k ∈ ksP (x :: A) ↔ k ∈ ksP (y :: B) := fun k => by rw [key_nz za, key_nz zb, hv k]
    have hxy : x.1 = y.1 := by
      have m1 : x.1 ∈ ksP (y :: B) := (kk _).1 (by simp [ksP])
      have m2 : y.1 ∈ ksP (x :: A) := (kk _).2 (by simp [ksP])
      obtain ⟨u, hu, e1⟩ := ks_mem.1 m1
      obtain ⟨t, ht, e2⟩ := ks_mem.1 m2
      rcases List.mem_cons.1 hu with rfl | hu
      · exact e1.symm
      · rcases List.mem_cons.1 ht with rfl | ht
        · exact e2
        · have h1 := pb.1 u hu
          have h2 := pa.1 t ht
          rw [e1] at h1
          rw [e2] at h2
          have h3 := cmp_lt_trans h1 h2
          rw [cmp_self] at h3; omega
    have hxy2 : x.2 = y.2 := by rw [← vP_at ha (x := x) (by simp), ← vP_at hb (x := y) (by simp), ← hxy]; exact hv _
    have e : x = y := Prod.ext hxy hxy2
    subst e
    congr 1
    refine srt_same pa.2 pb.2 (fun z hz => za z (List.mem_cons_of_mem _ hz)) (fun z hz => zb z (List.mem_cons_of_mem _ hz)) (fun k => ?_)
    have h := hv k
    unfold vP at h
    by_cases hk : k = x.1
    · have nA : k ∉ ksP A := fun hm => by
        obtain ⟨z, hz, e⟩ := ks_mem.1 hm
        have := pa.1 z hz
        rw [e, hk, cmp_self] at this; omega
      have nB : k ∉ ksP B := fun hm => by
        obtain ⟨z, hz, e⟩ := ks_mem.1 hm
        have := pb.1 z hz
        rw [e, hk, cmp_self] at this; omega
      rw [vP_none nA, vP_none nB]
    · rwa [if_neg hk, if_neg hk] at h

/-! ### The tree's hash -/
def ndR : Nat → PrL → List Int
  | 0, L => match L with
    | [x] => upH x.1 256 (lfH x.1 x.2) 0
    | _ => zero32
  | k + 1, L => match L with
    | [] => zero32
    | [x] => upH x.1 256 (lfH x.1 x.2) (k + 1)
    | x :: y :: M => abH (ndR k ((x :: y :: M).take (ptR (255 - k) (x :: y :: M)))) (ndR k ((x :: y :: M).drop (ptR (255 - k) (x :: y :: M))))
theorem ndR_nil (k : Nat) : ndR k [] = zero32 := by cases k <;> rfl
theorem ndR_one (k : Nat) (x : List Int × List Int) : ndR k [x] = upH x.1 256 (lfH x.1 x.2) k := by cases k <;> rfl
theorem ndR_two {k : Nat} {L : PrL} (h : 2 ≤ L.length) : ndR (k + 1) L = abH (ndR k (L.take (ptR (255 - k) L))) (ndR k (L.drop (ptR (255 - k) L))) := by
  match L, h with
  | x :: y :: M, _ => rfl
theorem one_pl {V : List Int → List Int} {K v : List Int} (hv : V K = v) : ∀ k, upH K 256 (lfH K v) k = pl V k [K]
  | 0 => by show lfH K v = lfH K (V K); rw [hv]
  | k + 1 => by
    show stp K (256 - 1 - k) (upH K 256 (lfH K v) k) = _
    rw [one_pl hv k, show 256 - 1 - k = 255 - k by omega, pl]
    unfold stp
    by_cases hb : bitI K (255 - k) = 0
    · rw [if_pos hb, filter_all (fun x hx => by rw [List.mem_singleton.1 hx, hb]; rfl), filter_none (fun x hx => by rw [List.mem_singleton.1 hx, hb]; rfl), pl_nil]
    · have hb1 : bitI K (255 - k) = 1 := by have := bit01 K (255 - k); omega
      rw [if_neg hb, filter_none (fun x hx => by rw [List.mem_singleton.1 hx, hb1]; rfl), filter_all (fun x hx => by rw [List.mem_singleton.1 hx, hb1]; rfl), pl_nil]
theorem agr_two {d : Nat} {L : PrL} (hs : SrtR L) (ok : PrsOk L) (ha : ∀ x ∈ L, ∀ y ∈ L, AgreeB d x.1 y.1) (hl : 2 ≤ L.length) : d < 256 := by
  match L, hl with
  | x :: y :: M, _ =>
    have h1 : cmpB x.1 y.1 < 0 := (List.pairwise_cons.1 hs).1 y (by simp)
    obtain ⟨h2, _, _⟩ := cmp_dif (ok x (by simp)).k (ok y (by simp)).k h1
    refine Decidable.byContradiction fun h => ?_
    have := dif_of (f := 256) (fun i hi => ha x (by simp) y (by simp) i (by omega)) (by omega)
    omega
/-- Both halves agree in one bit more. -/
theorem half_agr {d : Nat} {L M : PrL} (ha : ∀ x ∈ L, ∀ y ∈ L, AgreeB d x.1 y.1) (hM : ∀ x ∈ M, x ∈ L) {z : Int} (hz : ∀ x ∈ M, bitI x.1 d = z) : ∀ x ∈ M, ∀ y ∈ M, AgreeB (d + 1) x.1 y.1 := fun x hx y hy i hi => by
  by_cases e : i = d
  · rw [e, hz x hx, hz y hy]
  · exact ha x (hM x hx) y (hM y hy) i (by omega)
theorem ndR_pl : ∀ (k : Nat) {L : PrL}, k ≤ 256 → PrsOk L → SrtR L → (∀ x ∈ L, ∀ y ∈ L, AgreeB (256 - k) x.1 y.1) → ndR k L = pl (vP L) k (ksP L)
  | k, [], _, _, _, _ => by rw [ndR_nil]; exact (pl_nil _ k).symm
  | k, [x], _, _, _, _ => by
    rw [ndR_one]
    exact one_pl (by unfold vP; rw [if_pos rfl]) k
  | 0, x :: y :: M, _, ok, hs, ha => by
    have := agr_two hs ok ha (by simp)
    omega
  | k + 1, x :: y :: M, hk, ok, hs, ha => by
    obtain ⟨L, hL⟩ : ∃ L, x :: y :: M = L := ⟨_, rfl⟩
    rw [hL] at ok hs ha ⊢
    rw [ndR_two (by rw [← hL]; simp)]
    have hd : 255 - k < 256 := by omega
    rw [show 256 - (k + 1) = 255 - k by omega] at ha
    have hsp := ptR_split hs ok ha hd
    obtain ⟨n, hn⟩ : ∃ n, ptR (255 - k) L = n := ⟨_, rfl⟩
    rw [hn] at hsp ⊢
    have okA : PrsOk (L.take n) := fun z hz => ok z (List.mem_of_mem_take hz)
    have okB : PrsOk (L.drop n) := fun z hz => ok z (List.mem_of_mem_drop hz)
    have sA : SrtR (L.take n) := hs.sublist (List.take_sublist _ _)
    have sB : SrtR (L.drop n) := hs.sublist (List.drop_sublist _ _)
    have aA := half_agr ha (fun z hz => List.mem_of_mem_take hz) hsp.1
    have aB := half_agr ha (fun z hz => List.mem_of_mem_drop hz) hsp.2
    rw [show 255 - k + 1 = 256 - k by omega] at aA aB
    rw [ndR_pl k (by omega) okA sA aA, ndR_pl k (by omega) okB sB aB, pl]
    have eK : ksP L = ksP (L.take n) ++ ksP (L.drop n) := by unfold ksP; rw [← List.map_append, List.take_append_drop]
    have bA : ∀ z ∈ ksP (L.take n), bitI z (255 - k) = 0 := fun z hz => by obtain ⟨u, hu, e⟩ := ks_mem.1 hz; rw [← e]; exact hsp.1 u hu
    have bB : ∀ z ∈ ksP (L.drop n), bitI z (255 - k) = 1 := fun z hz => by obtain ⟨u, hu, e⟩ := ks_mem.1 hz; rw [← e]; exact hsp.2 u hu
    rw [eK, List.filter_append, List.filter_append, filter_all (fun z hz => by rw [bA z hz]; rfl), filter_none (S := ksP (L.drop n)) (fun z hz => by rw [bB z hz]; rfl), filter_none (S := ksP (L.take n)) (fun z hz => by rw [bA z hz]; rfl), filter_all (S := ksP (L.drop n)) (fun z hz => by rw [bB z hz]; rfl),
      List.append_nil, List.nil_append]
    have okk : ∀ {A : PrL}, PrsOk A → ∀ z ∈ ksP A, KyOk z := fun hA z hz => by obtain ⟨u, hu, e⟩ := ks_mem.1 hz; rw [← e]; exact (hA u hu).k
    have agk : ∀ {A : PrL}, (∀ u ∈ A, ∀ v ∈ A, AgreeB (256 - k) u.1 v.1) → ∀ u ∈ ksP A, ∀ v ∈ ksP A, AgreeB (256 - k) u v := fun hA u hu v hv => by
      obtain ⟨a, ha, rfl⟩ := ks_mem.1 hu
      obtain ⟨b, hb, rfl⟩ := ks_mem.1 hv
      exact hA a ha b hb
    congr 1
    · exact pl_congr k (by omega) (okk okA) (agk aA) (fun _ => Iff.rfl) (fun z hz => by
        conv => rhs; rw [← List.take_append_drop n L]
        exact (vP_left hz).symm)
    · exact pl_congr k (by omega) (okk okB) (agk aB) (fun _ => Iff.rfl) (fun z hz => by
        conv => rhs; rw [← List.take_append_drop n L]
        refine (vP_app fun hm => ?_).symm
        have h1 := bA z hm
        rw [bB z hz] at h1; omega)
/-- The root. -/
def rootR (L : PrL) : List Int := ndR 256 L
theorem agr_zero (L : PrL) : ∀ x ∈ L, ∀ y ∈ L, AgreeB 0 x.1 y.1 := fun x _ y _ i hi => by omega
theorem ks_ok {L : PrL} (ok : PrsOk L) : ∀ z ∈ ksP L, KyOk z := fun z hz => by obtain ⟨u, hu, e⟩ := ks_mem.1 hz; rw [← e]; exact (ok u hu).k
theorem rootR_E {L : PrL} {E : List En} (ok : PrsOk L) (hs : SrtR L) (hz : NzR L) (hE : EnW E) (hv : ∀ k, vOf E k = vP L k) : rootR L = rootE E := by
  unfold rootR rootE
  rw [ndR_pl 256 (by omega) ok hs (agr_zero L)]
  refine pl_congr 256 (by omega) (ks_ok ok) (fun x _ y _ i hi => by omega) (fun z => ?_) (fun z _ => (hv z).symm)
  rw [key_nz hz, ← hv z]
  have := hE.key (K := z)
  rw [← this]
  simp
end Go.Proofs.YtjlodnecdngdfaaDoor
namespace Go.Proofs.YtjlodnecdngdfaaDoor
open Go.RowKit
set_option maxRecDepth 100000

def putsR (L : PrL) : PrL := L.foldl (fun A x => putR x.1 x.2 A) []
theorem putsR_app (L : PrL) (x : List Int × List Int) : putsR (L ++ [x]) = putR x.1 x.2 (putsR L) := by unfold putsR; rw [List.foldl_append]; rfl
theorem take_step {L : PrL} {i : Nat} (hi : i < L.length) : L.take (i + 1) = L.take i ++ [L.getD i pr0] := by
  rw [List.take_add_one]
  simp [List.getD, hi]
theorem putsR_step {L : PrL} {i : Nat} (hi : i < L.length) : putsR (L.take (i + 1)) = putR (L.getD i pr0).1 (L.getD i pr0).2 (putsR (L.take i)) := by rw [take_step hi, putsR_app]
theorem putsR_len : ∀ L : PrL, (putsR L).length ≤ L.length := by
  have key : ∀ n, ∀ L : PrL, L.length ≤ n → (putsR L).length ≤ L.length := by
    intro n
    induction n with
    | zero => intro L hL; obtain rfl : L = [] := List.eq_nil_of_length_eq_zero (by omega); exact Nat.le_refl _
    | succ n ih =>
      intro L hL
      by_cases h0 : L.length = 0
      · obtain rfl : L = [] := List.eq_nil_of_length_eq_zero h0; exact Nat.le_refl _
      · obtain ⟨m, hm⟩ : ∃ m, L.length = m + 1 := ⟨L.length - 1, by omega⟩
        have hs := putsR_step (L := L) (i := m) (by omega)
        rw [List.take_of_length_le (by omega)] at hs
        rw [hs]
        have h1 := putR_len (L.getD m pr0).1 (L.getD m pr0).2 (putsR (L.take m))
        have h2 := ih (L.take m) (by simp; omega)
        have h3 : (L.take m).length = m := by simp; omega
        omega
  exact fun L => key _ L (Nat.le_refl _)
def New5Q (w : World) (L : PrL) (e : Ending) (w' : World) : Prop :=
  ((ksP L).Nodup ∧ ∃ pm v, e = .returned (.pointer (some ⟨pm, 0, none⟩)) ∧ RmS w w' pm v (putsR L)) ∨ (¬ (ksP L).Nodup ∧ e = .returned (.pointer none) ∧ Below w.heap.size w w')
theorem nd_dup {L : PrL} {k i : Nat} (hi : i < L.length) (hk : k < i) (h : (L.getD k pr0).1 = (L.getD i pr0).1) : ¬ (ksP L).Nodup := fun hn => by
  have h1 : k < (ksP L).length := by simp [ksP]; omega
  have h2 : i < (ksP L).length := by simpa [ksP] using hi
  have h3 := List.pairwise_iff_getElem.1 hn k i h1 h2 hk
  apply h3
  have e1 : (ksP L)[k] = (L.getD k pr0).1 := by simp [ksP, List.getD, show k < L.length by omega]
  have e2 : (ksP L)[i] = (L.getD i pr0).1 := by simp [ksP, List.getD, hi]
  rw [e1, e2]
  exact h
theorem nd_more {L : PrL} {i : Nat} (hi : i < L.length) (hn : (ksP (L.take i)).Nodup) (h : ∀ j, j < i → (L.getD j pr0).1 ≠ (L.getD i pr0).1) : (ksP (L.take (i + 1))).Nodup := by
  rw [take_step hi]
  unfold ksP at hn ⊢
  rw [List.map_append, List.nodup_append]
  refine ⟨hn, by simp, fun a ha b hb => ?_⟩
  obtain ⟨x, hx, rfl⟩ := List.mem_map.1 ha
  obtain ⟨j, hj, e⟩ := List.getElem_of_mem hx
  have hj2 : j < i := by simp at hj; omega
  have := h j hj2
  simp at hb
  rw [hb, ← e]
  simpa [List.getD, show j < L.length by omega, hi] using this
set_option maxHeartbeats 64000000 in
theorem New5_any {w : World} {q : Option Addr} {c : Nat} {L : PrL} (hq : RdQ w q L) (ok : PrsOk L) (hl : L.length ≤ 4000) :
    Calls Tryd.prog 11 #[.slice q L.length c] w (New5Q w L) := by
  have HQ := Lib.hid hq
  have OK := Lib.hid ok
  have RS := RmS.start w
  have RM0 : Hid (RmS w (w.alloc (.cells #[.slice none 0 0] 43)) w.heap.size (.slice none 0 0) (putsR (L.take 0))) := by rw [List.take_zero]; exact RS
  have hl2 : ¬ (4096 : Int) < (L.length : Int) := by omega
  clear hq ok RS
  go_enter Tryd.func11, Tryd.ntmps11
  go_wp2_with fail
  clear hl2
  obtain ⟨pm, hpm⟩ : ∃ pm, w.heap.size = pm := ⟨_, rfl⟩
  rw [hpm] at RM0
  try rw [hpm]
  clear hpm
  go_loopw [4] (fun iv wr => ∃ (i : Nat) (v : Value), iv = .int .i64 (i : Int) ∧ i ≤ L.length ∧ Hid (RmS w wr pm v (putsR (L.take i))) ∧ Hid ((ksP (L.take i)).Nodup)) (fun iv _ => L.length - (intOf iv).toNat)
  case atStart => exact ⟨0, _, rfl, by omega, RM0, by show (ksP (L.take 0)).Nodup; simp [ksP]⟩
  case round =>
    clear RM0
    obtain ⟨i, v, rfl, hil, RM, ND⟩ := hrel
    by_cases hlt : i < L.length
    · have hltI : (i : Int) < (L.length : Int) := by omega
      obtain ⟨b, off, rfl, rd0⟩ := HQ.out.resolve_left (fun e => by rw [e] at hlt; simp at hlt)
      have RDW : Hid (∀ W, Below w.heap.size w W → ∀ j, j < L.length → rowOf W b (off + j * 64) 32 = hc (L.getD j pr0).1 ∧ rowOf W b (off + j * 64 + 32) 32 = hc (L.getD j pr0).2) := fun W hW j hj => by
        have ok := prOk_get OK.out hj
        exact rowOf_half ok.k.len ok.l ((rd0.on OK.out hW) j hj)
      have OKX := Lib.hid (prOk_get OK.out hlt)
      obtain ⟨Ky, hK0⟩ : ∃ Ky, (L.getD i pr0).1 = Ky := ⟨_, rfl⟩
      obtain ⟨V, hV0⟩ : ∃ V, (L.getD i pr0).2 = V := ⟨_, rfl⟩
      have KYE := Lib.hid hK0
      have VE := Lib.hid hV0
      have lKy : Ky.length = 32 := by rw [← hK0]; exact OKX.out.k.len
      have lV : V.length = 32 := by rw [← hV0]; exact OKX.out.l
      have hlKy := hc_len Ky
      have hlV := hc_len V
      have PK : Hid (KyOk Ky) := by show KyOk Ky; rw [← hK0]; exact OKX.out.k
      have PB : Hid (Bytes V) := by show Bytes V; rw [← hV0]; exact OKX.out.b
      have g0 : (0 : Int) ≤ (i : Int) := by omega
      have R9 : Hid (∀ W, Below w.heap.size w W → rowOf W b (off + i * 64) 32 = hc Ky ∧ rowOf W b (off + i * 64 + 32) 32 = hc V) := fun W hW => by have := RDW.out W hW i hlt; rw [hK0, hV0] at this; exact this
      clear rd0 hK0 hV0 OKX
      go_wp2_with fail
      obtain ⟨wo, hwo⟩ : ∃ wo : World, wo = wr := ⟨_, rfl⟩
      clear hwo
      go_loopw [5] (fun kv wx => ∃ (k : Nat), kv = .int .i64 (k : Int) ∧ k ≤ i ∧ Hid (∀ j, j < k → (L.getD j pr0).1 ≠ Ky) ∧ Hid (RmS w wx pm v (putsR (L.take i)))) (fun kv _ => i - (intOf kv).toNat)
      case atStart => exact ⟨0, rfl, by omega, fun j hj => by omega, RM⟩
      case round =>
        clear RM
        obtain ⟨k, rfl, hki, NK, RM2⟩ := hrel
        by_cases hkl : k < i
        · as_aux_lemma =>
            have hklI : (k : Int) < (i : Int) := by omega
            have hkL : (k : Int) < (L.length : Int) := by omega
            have g0k : (0 : Int) ≤ (k : Int) := by omega
            have RM3 := Lib.hid (RM2.out.on (Below.refl _ _).drew)
            have hR := (RDW.out _ RM3.out.below k (by omega)).1
            obtain ⟨Kk, hKk⟩ : ∃ Kk, (L.getD k pr0).1 = Kk := ⟨_, rfl⟩
            have KE := Lib.hid hKk
            have lKk : Kk.length = 32 := by rw [← hKk]; exact (prOk_get OK.out (by omega)).k.len
            have hlKk := hc_len Kk
            have DUP : Hid (Kk = Ky → ¬ (ksP L).Nodup) := fun e => nd_dup hlt hkl (by rw [hKk, KYE.out, e])
            rw [hKk] at hR
            have hS : rowOf wr.drew b (off + k * 64) 32 = hc Kk ∧ rowOf wr.drew b (off + i * 64) 32 = hc Ky := ⟨hR, (R9.out _ RM3.out.below).1⟩
            clear hKk hR RM2
            go_upto_region 10 with fail
            refine wp_region_held_drew (S := fun W => rowOf W b (off + k * 64) 32 = hc Kk ∧ rowOf W b (off + i * 64) 32 = hc Ky) (by kernel_rfl) (hS) (fun h0 => ?_)
            generalize wr.drew = w3 at *
            refine wpAnyH_take (i := 0) (v := ?_) (by rw [List.getElem?_toArray]; rfl) (by kernel_rfl) (by kernel_rfl) (by kernel_rfl) (by exact fun _ _ _ h => h) (Or.inl ⟨by rfl, ?_⟩) h0 ?_
            rotate_left
            · intro W hW
              go_simp
              all_goals with_reducible rfl
            try simp only [Act.put, List.setIfInBounds_toArray, List.set_cons_zero, List.set_cons_succ]
            refine wpAnyH_take (i := 1) (v := ?_) (by rw [List.getElem?_toArray]; rfl) (by kernel_rfl) (by kernel_rfl) (by kernel_rfl) (by exact fun _ _ _ h => h) (Or.inl ⟨by rfl, ?_⟩) h0 ?_
            rotate_left
            · intro W hW
              go_simp
              all_goals with_reducible rfl
            try simp only [Act.put, List.setIfInBounds_toArray, List.set_cons_zero, List.set_cons_succ]
            refine wpAnyH_take (i := 2) (v := ?_) (by rw [List.getElem?_toArray]; rfl) (by kernel_rfl) (by kernel_rfl) (by kernel_rfl) (by exact fun _ _ _ h => h) (Or.inl ⟨by rfl, ?_⟩) h0 ?_
            rotate_left
            · intro W hW
              go_simp
              all_goals with_reducible rfl
            try simp only [Act.put, List.setIfInBounds_toArray, List.set_cons_zero, List.set_cons_succ]
            refine wpAnyH_take (i := 3) (v := ?_) (by rw [List.getElem?_toArray]; rfl) (by kernel_rfl) (by kernel_rfl) (by kernel_rfl) (by exact fun _ _ _ h => h) (Or.inl ⟨by rfl, ?_⟩) h0 ?_
            rotate_left
            · intro W hW
              go_simp
              all_goals with_reducible rfl
            try simp only [Act.put, List.setIfInBounds_toArray, List.set_cons_zero, List.set_cons_succ]
            refine wpAnyH_take (i := 4) (v := ?_) (by rw [List.getElem?_toArray]; rfl) (by kernel_rfl) (by kernel_rfl) (by kernel_rfl) (by exact fun _ _ _ h => h) (Or.inl ⟨by rfl, ?_⟩) h0 ?_
            rotate_left
            · intro W hW
              have c1 := hW.1
              go_simp
              all_goals with_reducible rfl
            try simp only [Act.put, List.setIfInBounds_toArray, List.set_cons_zero, List.set_cons_succ]
            refine wpAnyH_take (i := 5) (v := ?_) (by rw [List.getElem?_toArray]; rfl) (by kernel_rfl) (by kernel_rfl) (by kernel_rfl) (by exact fun _ _ _ h => h) (Or.inl ⟨by rfl, ?_⟩) h0 ?_
            rotate_left
            · intro W hW
              go_simp
              all_goals with_reducible rfl
            try simp only [Act.put, List.setIfInBounds_toArray, List.set_cons_zero, List.set_cons_succ]
            refine wpAnyH_take (i := 6) (v := ?_) (by rw [List.getElem?_toArray]; rfl) (by kernel_rfl) (by kernel_rfl) (by kernel_rfl) (by exact fun _ _ _ h => h) (Or.inl ⟨by rfl, ?_⟩) h0 ?_
            rotate_left
            · intro W hW
              go_simp
              all_goals with_reducible rfl
            try simp only [Act.put, List.setIfInBounds_toArray, List.set_cons_zero, List.set_cons_succ]
            refine wpAnyH_take (i := 7) (v := ?_) (by rw [List.getElem?_toArray]; rfl) (by kernel_rfl) (by kernel_rfl) (by kernel_rfl) (by exact fun _ _ _ h => h) (Or.inl ⟨by rfl, ?_⟩) h0 ?_
            rotate_left
            · intro W hW
              go_simp
              all_goals with_reducible rfl
            try simp only [Act.put, List.setIfInBounds_toArray, List.set_cons_zero, List.set_cons_succ]
            refine wpAnyH_take (i := 8) (v := ?_) (by rw [List.getElem?_toArray]; rfl) (by kernel_rfl) (by kernel_rfl) (by kernel_rfl) (by exact fun _ _ _ h => h) (Or.inl ⟨by rfl, ?_⟩) h0 ?_
            rotate_left
            · intro W hW
              go_simp
              all_goals with_reducible rfl
            try simp only [Act.put, List.setIfInBounds_toArray, List.set_cons_zero, List.set_cons_succ]
            refine wpAnyH_take (i := 9) (v := ?_) (by rw [List.getElem?_toArray]; rfl) (by kernel_rfl) (by kernel_rfl) (by kernel_rfl) (by exact fun _ _ _ h => h) (Or.inl ⟨by rfl, ?_⟩) h0 ?_
            rotate_left
            · intro W hW
              have c2 := hW.2
              go_simp
              all_goals with_reducible rfl
            try simp only [Act.put, List.setIfInBounds_toArray, List.set_cons_zero, List.set_cons_succ]
            refine wpAnyH_take (i := 10) (v := ?_) (by rw [List.getElem?_toArray]; rfl) (by kernel_rfl) (by kernel_rfl) (by kernel_rfl) (by exact fun _ _ _ h => h) (Or.inl ⟨by rfl, ?_⟩) h0 ?_
            rotate_left
            · intro W hW
              go_simp
              all_goals with_reducible rfl
            try simp only [Act.put, List.setIfInBounds_toArray, List.set_cons_zero, List.set_cons_succ]
            refine wpAnyH_done (by kernel_rfl) ?_ _
            clear h0
            by_cases hk : Kk = Ky
            · have e1 : (Kk == Ky) = true := by rw [hk]; simp
              simp only [e1]
              go_wp2_with fail
              refine bodyPost_ret (v := .pointer none) (by simp [results, Tryd.results11, go_sem]) rfl ?_
              exact .inr ⟨DUP.out hk, rfl, RM3.out.below⟩
            · have e1 : (Kk == Ky) = false := by simpa using hk
              simp only [e1]
              have NK3 : Hid (∀ j, j < k + 1 → (L.getD j pr0).1 ≠ Ky) := fun j hj => by
                by_cases e : j = k
                · rw [e, KE.out]; exact hk
                · exact NK.out j (by omega)
              go_wp2_with fail
              go_roundw
              case rel => exact ⟨k + 1, by go_num, by omega, NK3, RM3⟩
              case measure => simp [intOf]; omega
        · as_aux_lemma =>
            have hklI : ¬ (k : Int) < (i : Int) := by omega
            have NDN : Hid ((ksP (L.take (i + 1))).Nodup) := nd_more hlt ND.out (fun j hj => by rw [KYE.out]; exact NK.out j (by omega))
            have RM4 := Lib.hid (RM2.out.on (Below.refl _ _).drew)
            have hS4 : rowOf wr.drew b (off + i * 64) 32 = hc Ky ∧ rowOf wr.drew b (off + i * 64 + 32) 32 = hc V := R9.out _ RM4.out.below
            clear RM2
            go_upto_region 12 with fail
            refine wp_region_held_drew (S := fun W => rowOf W b (off + i * 64) 32 = hc Ky ∧ rowOf W b (off + i * 64 + 32) 32 = hc V) (by kernel_rfl) (hS4) (fun h0 => ?_)
            generalize wr.drew = w4 at *
            refine wpAnyH_take (i := 0) (v := ?_) (by rw [List.getElem?_toArray]; rfl) (by kernel_rfl) (by kernel_rfl) (by kernel_rfl) (by exact fun _ _ _ h => h) (Or.inl ⟨by rfl, ?_⟩) h0 ?_
            rotate_left
            · intro W hW
              go_simp
              all_goals with_reducible rfl
            try simp only [Act.put, List.setIfInBounds_toArray, List.set_cons_zero, List.set_cons_succ]
            refine wpAnyH_take (i := 1) (v := ?_) (by rw [List.getElem?_toArray]; rfl) (by kernel_rfl) (by kernel_rfl) (by kernel_rfl) (by exact fun _ _ _ h => h) (Or.inl ⟨by rfl, ?_⟩) h0 ?_
            rotate_left
            · intro W hW
              go_simp
              all_goals with_reducible rfl
            try simp only [Act.put, List.setIfInBounds_toArray, List.set_cons_zero, List.set_cons_succ]
            refine wpAnyH_take (i := 2) (v := ?_) (by rw [List.getElem?_toArray]; rfl) (by kernel_rfl) (by kernel_rfl) (by kernel_rfl) (by exact fun _ _ _ h => h) (Or.inl ⟨by rfl, ?_⟩) h0 ?_
            rotate_left
            · intro W hW
              go_simp
              all_goals with_reducible rfl
            try simp only [Act.put, List.setIfInBounds_toArray, List.set_cons_zero, List.set_cons_succ]
            refine wpAnyH_take (i := 3) (v := ?_) (by rw [List.getElem?_toArray]; rfl) (by kernel_rfl) (by kernel_rfl) (by kernel_rfl) (by exact fun _ _ _ h => h) (Or.inl ⟨by rfl, ?_⟩) h0 ?_
            rotate_left
            · intro W hW
              go_simp
              all_goals with_reducible rfl
            try simp only [Act.put, List.setIfInBounds_toArray, List.set_cons_zero, List.set_cons_succ]
            refine wpAnyH_take (i := 4) (v := ?_) (by rw [List.getElem?_toArray]; rfl) (by kernel_rfl) (by kernel_rfl) (by kernel_rfl) (by exact fun _ _ _ h => h) (Or.inl ⟨by rfl, ?_⟩) h0 ?_
            rotate_left
            · intro W hW
              go_simp
              all_goals with_reducible rfl
            try simp only [Act.put, List.setIfInBounds_toArray, List.set_cons_zero, List.set_cons_succ]
            refine wpAnyH_take (i := 5) (v := ?_) (by rw [List.getElem?_toArray]; rfl) (by kernel_rfl) (by kernel_rfl) (by kernel_rfl) (by exact fun _ _ _ h => h) (Or.inl ⟨by rfl, ?_⟩) h0 ?_
            rotate_left
            · intro W hW
              have c1 := hW.1
              go_simp
              all_goals with_reducible rfl
            try simp only [Act.put, List.setIfInBounds_toArray, List.set_cons_zero, List.set_cons_succ]
            refine wpAnyH_take (i := 6) (v := ?_) (by rw [List.getElem?_toArray]; rfl) (by kernel_rfl) (by kernel_rfl) (by kernel_rfl) (by exact fun _ _ _ h => h) (Or.inl ⟨by rfl, ?_⟩) h0 ?_
            rotate_left
            · intro W hW
              go_simp
              all_goals with_reducible rfl
            try simp only [Act.put, List.setIfInBounds_toArray, List.set_cons_zero, List.set_cons_succ]
            refine wpAnyH_take (i := 7) (v := ?_) (by rw [List.getElem?_toArray]; rfl) (by kernel_rfl) (by kernel_rfl) (by kernel_rfl) (by exact fun _ _ _ h => h) (Or.inl ⟨by rfl, ?_⟩) h0 ?_
            rotate_left
            · intro W hW
              go_simp
              all_goals with_reducible rfl
            try simp only [Act.put, List.setIfInBounds_toArray, List.set_cons_zero, List.set_cons_succ]
            refine wpAnyH_take (i := 8) (v := ?_) (by rw [List.getElem?_toArray]; rfl) (by kernel_rfl) (by kernel_rfl) (by kernel_rfl) (by exact fun _ _ _ h => h) (Or.inl ⟨by rfl, ?_⟩) h0 ?_
            rotate_left
            · intro W hW
              go_simp
              all_goals with_reducible rfl
            try simp only [Act.put, List.setIfInBounds_toArray, List.set_cons_zero, List.set_cons_succ]
            refine wpAnyH_take (i := 9) (v := ?_) (by rw [List.getElem?_toArray]; rfl) (by kernel_rfl) (by kernel_rfl) (by kernel_rfl) (by exact fun _ _ _ h => h) (Or.inl ⟨by rfl, ?_⟩) h0 ?_
            rotate_left
            · intro W hW
              go_simp
              all_goals with_reducible rfl
            try simp only [Act.put, List.setIfInBounds_toArray, List.set_cons_zero, List.set_cons_succ]
            refine wpAnyH_take (i := 10) (v := ?_) (by rw [List.getElem?_toArray]; rfl) (by kernel_rfl) (by kernel_rfl) (by kernel_rfl) (by exact fun _ _ _ h => h) (Or.inl ⟨by rfl, ?_⟩) h0 ?_
            rotate_left
            · intro W hW
              have c2 := hW.2
              go_simp
              all_goals with_reducible rfl
            try simp only [Act.put, List.setIfInBounds_toArray, List.set_cons_zero, List.set_cons_succ]
            refine wpAnyH_ready (rs := [11]) (by kernel_rfl) (by simp) ?_
            refine AllReadyH.cons (by rw [List.getElem?_toArray]; rfl) (fun KX hKK => ?_) AllReadyH.nil
            first | rw [if_pos (by rfl)] | skip
            have PU := Lib.hid (Put5_any RM4.out PK.out lV PB.out (by have := putsR_len (L.take i); simp at this; omega))
            go_wp2_with fail
            refine PU.out.mono ?_
            rintro e w5 ⟨rfl, v5, r5, -, -⟩
            have hS : rowOf w5 b (off + i * 64) 32 = hc Ky ∧ rowOf w5 b (off + i * 64 + 32) 32 = hc V := R9.out w5 r5.below
            have RM5 := Lib.hid r5
            clear r5 PU RM4
            go_wp2_with fail
            refine hKK.out _ _ (hS) (fun h0 => ?_)
            clear hKK KX
            try simp only [Act.put, List.setIfInBounds_toArray, List.set_cons_zero, List.set_cons_succ]
            refine wpAnyH_done (by kernel_rfl) ?_ _
            clear h0
            go_wp2_with fail
            go_roundw
            case rel => exact ⟨i + 1, v5, by go_num, by omega, by rw [putsR_step hlt, KYE.out, VE.out]; exact RM5, NDN⟩
            case measure => simp [intOf]; omega
    · have hltI : ¬ (i : Int) < (L.length : Int) := by omega
      obtain rfl : i = L.length := by omega
      rw [List.take_length] at RM ND
      go_wp2_with fail
      refine bodyPost_ret (v := .pointer (some ⟨pm, 0, none⟩)) (by simp [results, Tryd.results11, go_sem]) rfl ?_
      exact .inl ⟨ND.out, pm, v, rfl, RM.out⟩
end Go.Proofs.YtjlodnecdngdfaaDoor
