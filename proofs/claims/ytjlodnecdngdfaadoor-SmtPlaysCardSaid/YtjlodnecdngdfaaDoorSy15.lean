/-
  The document's map, plain: pairs by rising keys; a Put of one; the order of keys is that of their bits.; The document's order of keys, byte by byte.; The document's map in memory: a block with a row of pairs of its own.; The document's map: where a key stands.; The document's map: a row that is laid anew out of an older one's parts.; Bits of a hash, in package proof and in the document; how many are set.; The document's rows of pairs as arguments; how many go left.
-/
import Derived.Lib.BitFns
import Derived.Laws.Bits64
import Derived.Test.YtjlodnecdngdfaaDoorSy6
import Derived.Test.YtjlodnecdngdfaaDoorSy13
import Derived.Test.YtjlodnecdngdfaaDoorSy14
namespace Go.Proofs.YtjlodnecdngdfaaDoor
open Go.RowKit
set_option maxRecDepth 100000

theorem bl_cb : ∀ x y : List UInt8, Op.bytesLess x y = decide (Lib.compareBytes x y < 0)
  | [], [] => rfl
  | [], _ :: _ => rfl
  | _ :: _, [] => rfl
  | a :: xs, b :: ys => by
    have ih := bl_cb xs ys
    simp only [Op.bytesLess, Lib.compareBytes]
    by_cases h1 : a < b
    · simp [h1]
    · by_cases h2 : b < a
      · have h3 : (a == b) = false := by
          rw [UInt8.lt_iff_toNat_lt] at h2
          simp only [beq_eq_false_iff_ne, ne_eq]
          intro e; rw [e] at h2; omega
        simp [h1, h2, h3]
      · have h3 : (a == b) = true := by
          rw [UInt8.lt_iff_toNat_lt] at h1 h2
          simp only [beq_iff_eq]
          exact UInt8.toNat_inj.1 (by omega)
        simp [h1, h2, h3, ih]
theorem less_cmp (a b : List Int) : Op.bytesLess (strOfNums a).toList (strOfNums b).toList = decide (cmpB a b < 0) := by
  rw [Lib.strOfNums_toList, Lib.strOfNums_toList, bl_cb]; rfl
theorem cmp_lt_trans {a b c : List Int} (h1 : cmpB a b < 0) (h2 : cmpB b c < 0) : cmpB a c < 0 := by
  refine Decidable.byContradiction fun h => ?_
  have n1 := cmp_neg a c
  have n2 := cmp_neg b c
  have n3 := cmp_neg a b
  have := cmp_le (a := c) (b := a) (c := b) (by omega) (by omega)
  omega
theorem cmp_self (a : List Int) : cmpB a a = 0 := by have := cmp_neg a a; omega
theorem cb_first : ∀ xs ys : List Int, xs.length = ys.length → Bytes xs → Bytes ys → Lib.compareBytes (Lib.bytesOf xs) (Lib.bytesOf ys) ≤ 0 → xs = ys ∨ ∃ j, j < xs.length ∧ (∀ i, i < j → xs.getD i 0 = ys.getD i 0) ∧ xs.getD j 0 < ys.getD j 0
  | [], [], _, _, _, _ => .inl rfl
  | [], _ :: _, h, _, _, _ => by simp at h
  | _ :: _, [], h, _, _, _ => by simp at h
  | x :: xs, y :: ys, h, bx, by_, hc => by
    have hx := bx x (by simp)
    have hy := by_ y (by simp)
    have e1 : (UInt8.ofNat x.toNat).toNat = x.toNat := by simp; omega
    have e2 : (UInt8.ofNat y.toNat).toNat = y.toNat := by simp; omega
    have hc' : (if UInt8.ofNat x.toNat < UInt8.ofNat y.toNat then (-1 : Int) else if UInt8.ofNat y.toNat < UInt8.ofNat x.toNat then 1 else Lib.compareBytes (Lib.bytesOf xs) (Lib.bytesOf ys)) ≤ 0 := hc
    simp only [UInt8.lt_iff_toNat_lt, e1, e2] at hc'
    by_cases h1 : x.toNat < y.toNat
    · exact .inr ⟨0, by simp, fun i hi => by omega, by simp; omega⟩
    · rw [if_neg h1] at hc'
      by_cases h2 : y.toNat < x.toNat
      · rw [if_pos h2] at hc'; omega
      · rw [if_neg h2] at hc'
        obtain rfl : x = y := by omega
        rcases cb_first xs ys (by simpa using h) (fun z hz => bx z (List.mem_cons_of_mem _ hz)) (fun z hz => by_ z (List.mem_cons_of_mem _ hz)) hc' with rfl | ⟨j, h3, h4, h5⟩
        · exact .inl rfl
        · refine .inr ⟨j + 1, by simp; omega, fun i hi => ?_, by simpa using h5⟩
          cases i with
          | zero => rfl
          | succ i => simpa using h4 i (by omega)
theorem cmp_eq {a b : List Int} (ha : KyOk a) (hb : KyOk b) (h : cmpB a b = 0) : a = b := by
  rcases cb_first a b (by rw [ha.len, hb.len]) ha.by_ hb.by_ (by show cmpB a b ≤ 0; omega) with h1 | ⟨j, h1, h2, h3⟩
  · exact h1
  · rcases cb_first b a (by rw [ha.len, hb.len]) hb.by_ ha.by_ (by show cmpB b a ≤ 0; have := cmp_neg a b; omega) with h4 | ⟨k, h4, h5, h6⟩
    · exact h4.symm
    · rcases Nat.lt_trichotomy j k with h | h | h
      · have := h5 j h; omega
      · subst h; omega
      · have := h2 k h; omega
theorem byte_lt {x y : Int} (hx : 0 ≤ x ∧ x < 256) (hy : 0 ≤ y ∧ y < 256) (hlt : x < y) {t : Nat} (ht : t < 8) (ha : ∀ s, s < t → x / 2 ^ (7 - s) % 2 = y / 2 ^ (7 - s) % 2) (hne : x / 2 ^ (7 - t) % 2 ≠ y / 2 ^ (7 - t) % 2) : x / 2 ^ (7 - t) % 2 = 0 := by
  have h0 := ha 0
  have h1 := ha 1
  have h2 := ha 2
  have h3 := ha 3
  have h4 := ha 4
  have h5 := ha 5
  have h6 := ha 6
  simp only [Nat.sub_zero, show 7 - 1 = 6 from rfl, show 7 - 2 = 5 from rfl, show 7 - 3 = 4 from rfl, show 7 - 4 = 3 from rfl, show 7 - 5 = 2 from rfl, show 7 - 6 = 1 from rfl, show (2 : Int) ^ 7 = 128 from rfl, show (2 : Int) ^ 6 = 64 from rfl, show (2 : Int) ^ 5 = 32 from rfl, show (2 : Int) ^ 4 = 16 from rfl, show (2 : Int) ^ 3 = 8 from rfl, show (2 : Int) ^ 2 = 4 from rfl, show (2 : Int) ^ 1 = 2 from rfl] at h0 h1 h2 h3 h4 h5 h6
  clear ha
  match t, ht with
  | 0, _ => simp only [Nat.sub_zero, show (2 : Int) ^ 7 = 128 from rfl] at hne ⊢; omega
  | 1, _ => simp only [show 7 - 1 = 6 from rfl, show (2 : Int) ^ 6 = 64 from rfl] at hne ⊢; have := h0 (by omega); omega
  | 2, _ => simp only [show 7 - 2 = 5 from rfl, show (2 : Int) ^ 5 = 32 from rfl] at hne ⊢; have := h0 (by omega); have := h1 (by omega); omega
  | 3, _ => simp only [show 7 - 3 = 4 from rfl, show (2 : Int) ^ 4 = 16 from rfl] at hne ⊢; have := h0 (by omega); have := h1 (by omega); have := h2 (by omega); omega
  | 4, _ => simp only [show 7 - 4 = 3 from rfl, show (2 : Int) ^ 3 = 8 from rfl] at hne ⊢; have := h0 (by omega); have := h1 (by omega); have := h2 (by omega); have := h3 (by omega); omega
  | 5, _ => simp only [show 7 - 5 = 2 from rfl, show (2 : Int) ^ 2 = 4 from rfl] at hne ⊢; have := h0 (by omega); have := h1 (by omega); have := h2 (by omega); have := h3 (by omega); have := h4 (by omega); omega
  | 6, _ => simp only [show 7 - 6 = 1 from rfl, show (2 : Int) ^ 1 = 2 from rfl] at hne ⊢; have := h0 (by omega); have := h1 (by omega); have := h2 (by omega); have := h3 (by omega); have := h4 (by omega); have := h5 (by omega); omega
  | 7, _ => simp only [show 7 - 7 = 0 from rfl, show (2 : Int) ^ 0 = 1 from rfl] at hne ⊢; have := h0 (by omega); have := h1 (by omega); have := h2 (by omega); have := h3 (by omega); have := h4 (by omega); have := h5 (by omega); have := h6 (by omega); omega
/-- Of two keys the smaller one has a zero where they part. -/
theorem cmp_dif {a b : List Int} (ha : KyOk a) (hb : KyOk b) (h : cmpB a b < 0) : dif a b < 256 ∧ bitI a (dif a b) = 0 ∧ bitI b (dif a b) = 1 := by
  have hne : a ≠ b := fun e => by rw [e, cmp_self] at h; omega
  have hd : dif a b < 256 := by
    rcases Nat.lt_or_ge (dif a b) 256 with h1 | h1
    · exact h1
    · exact absurd (key_eq ha hb ((dif_agree a b).mono h1)) hne
  have hdn := dif_ne hd
  have hda := dif_agree a b
  have key : bitI a (dif a b) = 0 := by
    obtain ⟨d, hde⟩ : ∃ d, dif a b = d := ⟨_, rfl⟩
    rw [hde] at hd hdn hda ⊢
    rcases cb_first a b (by rw [ha.len, hb.len]) ha.by_ hb.by_ (Int.le_of_lt h) with h1 | ⟨j, h1, h2, h3⟩
    · exact absurd h1 hne
    · have bit : ∀ x : List Int, ∀ i s, s < 8 → bitI x (8 * i + s) = x.getD i 0 / 2 ^ (7 - s) % 2 := fun x i s hs => by
        unfold bitI
        rw [show (8 * i + s) / 8 = i by omega, show (8 * i + s) % 8 = s by omega]
      have hj : j = d / 8 := by
        rcases Nat.lt_trichotomy j (d / 8) with h4 | h4 | h4
        · have : a.getD j 0 = b.getD j 0 := byte_bits (ha.by_.getD j) (hb.by_.getD j) (fun s hs => by
            rw [← bit a j s hs, ← bit b j s hs]; exact hda _ (by omega))
          omega
        · exact h4
        · have e := h2 (d / 8) h4
          refine absurd ?_ hdn
          have e1 := bit a (d / 8) (d % 8) (by omega)
          have e2 := bit b (d / 8) (d % 8) (by omega)
          rw [show 8 * (d / 8) + d % 8 = d by omega] at e1 e2
          rw [e1, e2, e]
      subst hj
      have e1 := bit a (d / 8) (d % 8) (by omega)
      have e2 := bit b (d / 8) (d % 8) (by omega)
      rw [show 8 * (d / 8) + d % 8 = d by omega] at e1 e2
      rw [e1, e2] at hdn
      rw [e1]
      refine byte_lt (ha.by_.getD _) (hb.by_.getD _) h3 (Nat.mod_lt _ (by omega)) (fun s hs => ?_) hdn
      rw [← bit a (d / 8) s (by omega), ← bit b (d / 8) s (by omega)]
      exact hda _ (by omega)
  refine ⟨hd, key, ?_⟩
  have := bit01 b (dif a b)
  omega

/-! ### Pairs by rising keys -/
abbrev PrL := List (List Int × List Int)
def SrtR (L : PrL) : Prop := L.Pairwise fun a b => cmpB a.1 b.1 < 0
def PrsOk (L : PrL) : Prop := ∀ x ∈ L, PrOk x
/-- Where a key stands, or would stand. -/
def fiR (K : List Int) : PrL → Nat
  | [] => 0
  | x :: L => if cmpB x.1 K < 0 then fiR K L + 1 else 0
def thR (K : List Int) (L : PrL) : Bool := decide (fiR K L < L.length) && ((L.getD (fiR K L) pr0).1 == K)
theorem fiR_le (K : List Int) : ∀ L : PrL, fiR K L ≤ L.length
  | [] => Nat.le_refl _
  | x :: L => by unfold fiR; split; simp; exact fiR_le K L; simp
theorem fiR_lt {K : List Int} : ∀ {L : PrL} {j : Nat}, j < fiR K L → cmpB (L.getD j pr0).1 K < 0
  | [], j, h => by simp [fiR] at h
  | x :: L, j, h => by
    unfold fiR at h
    split at h
    · rename_i hx
      cases j with
      | zero => exact hx
      | succ j => simpa using fiR_lt (L := L) (by omega)
    · omega
theorem fiR_at {K : List Int} : ∀ {L : PrL}, fiR K L < L.length → ¬ cmpB (L.getD (fiR K L) pr0).1 K < 0
  | [], h => by simp at h
  | x :: L, h => by
    unfold fiR at h ⊢
    by_cases hx : cmpB x.1 K < 0
    · rw [if_pos hx] at h ⊢
      simpa using fiR_at (L := L) (by simpa using h)
    · rw [if_neg hx]; simpa using hx
def putR (K V : List Int) (L : PrL) : PrL :=
  if V = zero32 then (if thR K L = true then L.take (fiR K L) ++ L.drop (fiR K L + 1) else L)
  else if thR K L = true then L.set (fiR K L) (K, V) else L.take (fiR K L) ++ (K, V) :: L.drop (fiR K L)
theorem srt_get {L : PrL} (h : SrtR L) {i j : Nat} (hi : i < j) (hj : j < L.length) : cmpB (L.getD i pr0).1 (L.getD j pr0).1 < 0 := by
  have := List.pairwise_iff_getElem.1 h i j (by omega) hj hi
  simpa [List.getD, show i < L.length by omega, hj] using this
theorem take_lt {K : List Int} {L : PrL} {x : List Int × List Int} (h : x ∈ L.take (fiR K L)) : cmpB x.1 K < 0 := by
  obtain ⟨i, hi, e⟩ := List.getElem_of_mem h
  have hl : i < fiR K L := by simp at hi; omega
  have := fiR_lt hl
  have hi2 : i < L.length := by have := fiR_le K L; omega
  rw [← e]
  simpa [List.getD, hi2] using this
theorem drop_gt {K : List Int} {L : PrL} (hs : SrtR L) (hK : KyOk K) (ok : PrsOk L) {n : Nat} (hn : fiR K L ≤ n) (ht : thR K L = true → fiR K L < n) {x : List Int × List Int} (h : x ∈ L.drop n) : cmpB K x.1 < 0 := by
  obtain ⟨i, hi, e⟩ := List.getElem_of_mem h
  have hi2 : n + i < L.length := by simp at hi; omega
  have hx : L.getD (n + i) pr0 = x := by rw [← e]; simp [List.getD, hi2]
  have hlt : fiR K L < L.length := by omega
  have ha := fiR_at hlt
  have okf : KyOk (L.getD (fiR K L) pr0).1 := (ok _ (by simp [List.getD, hlt])).k
  by_cases hth : thR K L = true
  · have he : (L.getD (fiR K L) pr0).1 = K := by
      unfold thR at hth
      simp only [Bool.and_eq_true, beq_iff_eq] at hth
      exact hth.2
    have := srt_get hs (i := fiR K L) (j := n + i) (by have := ht hth; omega) hi2
    rw [he, hx] at this
    exact this
  · have hne : (L.getD (fiR K L) pr0).1 ≠ K := fun e => hth (by unfold thR; rw [e]; simp [hlt])
    have h0 : cmpB (L.getD (fiR K L) pr0).1 K ≠ 0 := fun e => hne (cmp_eq okf hK e)
    have hg : cmpB K (L.getD (fiR K L) pr0).1 < 0 := by have := cmp_neg K (L.getD (fiR K L) pr0).1; omega
    by_cases e2 : n + i = fiR K L
    · rw [← hx, e2]; exact hg
    · have := srt_get hs (i := fiR K L) (j := n + i) (by omega) hi2
      rw [hx] at this
      exact cmp_lt_trans hg this
theorem thR_key {K : List Int} {L : PrL} (h : thR K L = true) : fiR K L < L.length ∧ (L.getD (fiR K L) pr0).1 = K := by
  unfold thR at h
  simpa using h
theorem putR_ok {K V : List Int} {L : PrL} (ok : PrsOk L) (hK : KyOk K) (lV : V.length = 32) (bV : Bytes V) : PrsOk (putR K V L) := by
  intro x hx
  unfold putR at hx
  split at hx
  · split at hx
    · rcases List.mem_append.1 hx with h | h
      · exact ok x (List.mem_of_mem_take h)
      · exact ok x (List.mem_of_mem_drop h)
    · exact ok x hx
  · split at hx
    · rcases List.mem_or_eq_of_mem_set hx with h | h
      · exact ok x h
      · rw [h]; exact ⟨hK, lV, bV⟩
    · rcases List.mem_append.1 hx with h | h
      · exact ok x (List.mem_of_mem_take h)
      · rcases List.mem_cons.1 h with h | h
        · rw [h]; exact ⟨hK, lV, bV⟩
        · exact ok x (List.mem_of_mem_drop h)
theorem putR_srt {K V : List Int} {L : PrL} (hs : SrtR L) (ok : PrsOk L) (hK : KyOk K) : SrtR (putR K V L) := by
  have ht : SrtR (L.take (fiR K L)) := hs.sublist (List.take_sublist _ _)
  have hd : ∀ n, SrtR (L.drop n) := fun n => hs.sublist (List.drop_sublist _ _)
  unfold putR
  split
  · split
    · rename_i hth
      exact List.pairwise_append.2 ⟨ht, hd _, fun x hx y hy => cmp_lt_trans (take_lt hx) (drop_gt hs hK ok (by omega) (fun _ => by omega) hy)⟩
    · exact hs
  · split
    · rename_i hth
      obtain ⟨h1, h2⟩ := thR_key hth
      have e : L.set (fiR K L) (K, V) = L.take (fiR K L) ++ (K, V) :: L.drop (fiR K L + 1) := by rw [List.set_eq_take_append_cons_drop, if_pos h1]
      rw [e]
      refine List.pairwise_append.2 ⟨ht, List.pairwise_cons.2 ⟨fun y hy => drop_gt hs hK ok (by omega) (fun _ => by omega) hy, hd _⟩, fun x hx y hy => ?_⟩
      rcases List.mem_cons.1 hy with rfl | hy
      · exact take_lt hx
      · exact cmp_lt_trans (take_lt hx) (drop_gt hs hK ok (by omega) (fun _ => by omega) hy)
    · rename_i hth
      refine List.pairwise_append.2 ⟨ht, List.pairwise_cons.2 ⟨fun y hy => drop_gt hs hK ok (Nat.le_refl _) (fun h => absurd h hth) hy, hd _⟩, fun x hx y hy => ?_⟩
      rcases List.mem_cons.1 hy with rfl | hy
      · exact take_lt hx
      · exact cmp_lt_trans (take_lt hx) (drop_gt hs hK ok (Nat.le_refl _) (fun h => absurd h hth) hy)
theorem putR_len (K V : List Int) (L : PrL) : (putR K V L).length ≤ L.length + 1 := by
  have := fiR_le K L
  unfold putR
  split
  · split
    · simp; omega
    · omega
  · split
    · simp
    · simp; omega
end Go.Proofs.YtjlodnecdngdfaaDoor
namespace Go.Proofs.YtjlodnecdngdfaaDoor
open Go.RowKit
set_option maxRecDepth 100000

set_option maxHeartbeats 4000000 in
theorem less_any {w : World} {A B : List Int} (hA : KyOk A) (hB : KyOk B) : Calls Tryd.prog 53 #[.agg (hc A).toArray, .agg (hc B).toArray] w fun e w' => e = .returned (.bool (decide (cmpB A B < 0))) ∧ Below w.heap.size w w' := by
  have HA := Lib.hid ((HashAt.new w A).alloc (.cells (hc B).toArray 24))
  have HB := HashAt.new (w.alloc (.cells (hc A).toArray 24)) B
  simp only [World.size_alloc] at HB
  replace HB := Lib.hid HB
  have B0 := Lib.hid (((Below.refl w.heap.size w).alloc (Nat.le_refl _) (.cells (hc A).toArray 24)).alloc (by simp) (.cells (hc B).toArray 24))
  have lA := hA.len
  have lB := hB.len
  have hlA := hc_len A
  have hlB := hc_len B
  have HL : Op.bytesLess (strOfNums A).toList (strOfNums B).toList = decide (cmpB A B < 0) := less_cmp A B
  clear hA hB
  go_enter Tryd.func53, Tryd.ntmps53
  go_wp2_with fail
  refine wp_region_held_drew (S := fun W => HashAt W w.heap.size A ∧ HashAt W (w.heap.size + 1) B) (by kernel_rfl) (⟨HA.out.on (Below.refl _ _).drew, HB.out.on (Below.refl _ _).drew⟩) (fun h0 => ?_)
  refine wpAnyH_take (i := 0) (v := ?_) (by rw [List.getElem?_toArray]; rfl) (by kernel_rfl) (by kernel_rfl) (by kernel_rfl) (by exact fun _ _ _ h => h) (Or.inl ⟨by rfl, ?_⟩) h0 ?_
  rotate_left
  · intro W hW
    go_simp
    all_goals with_reducible rfl
  try simp only [Act.put, List.setIfInBounds_toArray, List.set_cons_zero, List.set_cons_succ]
  refine wpAnyH_take (i := 1) (v := ?_) (by rw [List.getElem?_toArray]; rfl) (by kernel_rfl) (by kernel_rfl) (by kernel_rfl) (by exact fun _ _ _ h => h) (Or.inl ⟨by rfl, ?_⟩) h0 ?_
  rotate_left
  · intro W hW
    have cv := run_convert_bytes_arg (P := Tryd.prog) W 82 5 Tryd.underlying82 Tryd.underlying5 w.heap.size 0 32 32 A lA (fun i hi => by rw [Nat.zero_add]; exact hW.1.cell (by omega)) 9 Tryd.underlying9
    go_simp
    all_goals with_reducible rfl
  try simp only [Act.put, List.setIfInBounds_toArray, List.set_cons_zero, List.set_cons_succ]
  refine wpAnyH_take (i := 2) (v := ?_) (by rw [List.getElem?_toArray]; rfl) (by kernel_rfl) (by kernel_rfl) (by kernel_rfl) (by exact fun _ _ _ h => h) (Or.inl ⟨by rfl, ?_⟩) h0 ?_
  rotate_left
  · intro W hW
    go_simp
    all_goals with_reducible rfl
  try simp only [Act.put, List.setIfInBounds_toArray, List.set_cons_zero, List.set_cons_succ]
  refine wpAnyH_take (i := 3) (v := ?_) (by rw [List.getElem?_toArray]; rfl) (by kernel_rfl) (by kernel_rfl) (by kernel_rfl) (by exact fun _ _ _ h => h) (Or.inl ⟨by rfl, ?_⟩) h0 ?_
  rotate_left
  · intro W hW
    have cv := run_convert_bytes_arg (P := Tryd.prog) W 82 5 Tryd.underlying82 Tryd.underlying5 (w.heap.size + 1) 0 32 32 B lB (fun i hi => by rw [Nat.zero_add]; exact hW.2.cell (by omega)) 9 Tryd.underlying9
    go_simp
    all_goals with_reducible rfl
  try simp only [Act.put, List.setIfInBounds_toArray, List.set_cons_zero, List.set_cons_succ]
  refine wpAnyH_take (i := 4) (v := ?_) (by rw [List.getElem?_toArray]; rfl) (by kernel_rfl) (by kernel_rfl) (by kernel_rfl) (by exact fun _ _ _ h => h) (Or.inl ⟨by rfl, ?_⟩) h0 ?_
  rotate_left
  · intro W hW
    have cl := HL
    go_simp
    all_goals with_reducible rfl
  try simp only [Act.put, List.setIfInBounds_toArray, List.set_cons_zero, List.set_cons_succ]
  refine wpAnyH_take (i := 5) (v := ?_) (by rw [List.getElem?_toArray]; rfl) (by kernel_rfl) (by kernel_rfl) (by kernel_rfl) (by exact fun _ _ _ h => h) (Or.inl ⟨by rfl, ?_⟩) h0 ?_
  rotate_left
  · intro W hW
    go_simp
    all_goals with_reducible rfl
  try simp only [Act.put, List.setIfInBounds_toArray, List.set_cons_zero, List.set_cons_succ]
  refine wpAnyH_done (by kernel_rfl) ?_ _
  clear h0
  go_wp2_with fail
  go_ret
  exact ⟨rfl, B0.out.drew⟩

end Go.Proofs.YtjlodnecdngdfaaDoor
namespace Go.Proofs.YtjlodnecdngdfaaDoor
open Go.RowKit
set_option maxRecDepth 100000

def prs (L : PrL) : List Value := L.flatMap fun x => prRow x.1 x.2
theorem prs_append (A B : PrL) : prs (A ++ B) = prs A ++ prs B := by simp [prs]
theorem prs_cons (x : List Int × List Int) (L : PrL) : prs (x :: L) = prRow x.1 x.2 ++ prs L := rfl
theorem prs_len : ∀ {L : PrL}, PrsOk L → (prs L).length = L.length * 64
  | [], _ => rfl
  | x :: L, h => by
    have h1 := prs_len (L := L) (fun y hy => h y (List.mem_cons_of_mem _ hy))
    have h2 := h x (by simp)
    rw [prs_cons, List.length_append, h1, prRow_len h2.k.len h2.l, List.length_cons]
    omega
theorem prs_mid (tail : List Value) : ∀ {L : PrL}, PrsOk L → ∀ i, i < L.length → ((prs L ++ tail).drop (i * 64)).take 64 = prRow (L.getD i pr0).1 (L.getD i pr0).2
  | [], _, i, hi => by simp at hi
  | x :: L, h, i, hi => by
    have h2 := h x (by simp)
    have hl := prRow_len h2.k.len h2.l
    rw [prs_cons, List.append_assoc]
    cases i with
    | zero => rw [Nat.zero_mul, List.drop_zero]; exact List.take_left' hl
    | succ i =>
      rw [List.drop_append, hl, List.drop_eq_nil_of_le (by omega), List.nil_append, show (i + 1) * 64 - 64 = i * 64 by omega]
      exact prs_mid tail (fun y hy => h y (List.mem_cons_of_mem _ hy)) i (by simpa using hi)
theorem prs_one (L : PrL) : ∀ u ∈ prs L, u.oneCell' = true := by
  intro u hu
  obtain ⟨x, _, hx⟩ := List.mem_flatMap.1 hu
  exact (Array.all_eq_true_iff_forall_mem.1 (pr_one x.1 x.2)) u (by simpa using hx)
/-- Pairs that can be read at an address. -/
def RdR (w : World) (b off : Nat) (L : PrL) : Prop := ∀ i, i < L.length → rowOf w b (off + i * 64) 64 = prRow (L.getD i pr0).1 (L.getD i pr0).2
theorem RdR.on {w w' : World} {b off : Nat} {L : PrL} (h : RdR w b off L) (ok : PrsOk L) (hb : Below w.heap.size w w') : RdR w' b off L := fun i hi => by
  have hk := ok (L.getD i pr0) (by simp [List.getD, hi])
  rw [rowOf_on (by rw [h i hi, prRow_len hk.k.len hk.l]; omega) hb]; exact h i hi
theorem RdR.drop {w : World} {b off : Nat} {L : PrL} (h : RdR w b off L) (n : Nat) : RdR w b (off + n * 64) (L.drop n) := fun i hi => by
  have e : (L.drop n).getD i pr0 = L.getD (n + i) pr0 := by simp [List.getD, List.getElem?_drop]
  rw [e, ← h (n + i) (by simp at hi; omega)]
  congr 1
  rw [Nat.add_mul]; omega
theorem RdR.take {w : World} {b off : Nat} {L : PrL} (h : RdR w b off L) (n : Nat) : RdR w b off (L.take n) := fun i hi => by
  have hn : i < n := by simp at hi; omega
  have e : (L.take n).getD i pr0 = L.getD i pr0 := by simp [List.getD, hn]
  rw [e]; exact h i (by simp at hi; omega)
theorem prs_cell : ∀ {L : PrL}, PrsOk L → ∀ {j : Nat} {u : Value}, (prs L)[j]? = some u → j / 64 < L.length ∧ (prRow (L.getD (j / 64) pr0).1 (L.getD (j / 64) pr0).2)[j % 64]? = some u
  | [], _, j, u, hj => by simp [prs] at hj
  | x :: L, h, j, u, hj => by
    have h2 := h x (by simp)
    have hl := prRow_len h2.k.len h2.l
    rw [prs_cons] at hj
    by_cases hlt : j < 64
    · rw [List.getElem?_append_left (by omega)] at hj
      rw [show j / 64 = 0 by omega, show j % 64 = j by omega]
      exact ⟨by simp, hj⟩
    · rw [List.getElem?_append_right (by omega), hl] at hj
      obtain ⟨h3, h4⟩ := prs_cell (fun y hy => h y (List.mem_cons_of_mem _ hy)) hj
      have e1 : j / 64 = (j - 64) / 64 + 1 := by omega
      have e2 : j % 64 = (j - 64) % 64 := by omega
      rw [e1, e2]
      exact ⟨by simp; omega, h4⟩
theorem RdR.src {P : Program} {w : World} {tx e' : TypeId} {b off c : Nat} {L : PrL} (h : RdR w b off L) (ok : PrsOk L) (hk : P.underlying tx = some (.slice e')) : Src P 64 tx (.slice (some ⟨b, off, none⟩) L.length c) L.length (prs L) w := by
  refine Src.ofSlice w hk _ _ _ _ (prs_len ok) (fun j u hu => ?_) (prs_one L)
  rw [addr_add]
  obtain ⟨h1, h2⟩ := prs_cell ok hu
  have := range_rowOf w b (off + j / 64 * 64) 64 (j % 64) u (by rw [h _ h1]; exact h2)
  rw [show off + j / 64 * 64 + j % 64 = off + j by omega] at this
  exact this
/-- A map of a call's own. -/
structure RmS (w0 wr : World) (pm : Nat) (v : Value) (L : PrL) : Prop where
  blk : wr.heap[pm]? = some (.cells #[v] 43 (0, 0))
  own : wr.ownsRow 0 37 64 v L.length (prs L)
  ok : PrsOk L
  srt : SrtR L
  lo : w0.heap.size ≤ pm
  fresh : ∀ g, v.ownBlock = some g → w0.heap.size ≤ g
  below : Below w0.heap.size w0 wr
section
variable {w0 wr w' : World} {pm : Nat} {v : Value} {L : PrL}
theorem RmS.lt (h : RmS w0 wr pm v L) : pm < wr.heap.size := (Array.getElem?_eq_some_iff.1 h.blk).1
theorem RmS.chg {S : List Nat} (h : RmS w0 wr pm v L) (hc : Chg wr w' S) (hp : pm ∉ S) (hv : ∀ g, v.ownBlock = some g → g ∉ S) (hS : ∀ g ∈ S, w0.heap.size ≤ g) : RmS w0 w' pm v L :=
  ⟨by rw [hc.block pm h.lt hp]; exact h.blk, own_chg2 h.own hc hv, h.ok, h.srt, h.lo, h.fresh, h.below.trans (hc.toBelow h.below.size hS)⟩
theorem RmS.on (h : RmS w0 wr pm v L) (hb : Below wr.heap.size wr w') : RmS w0 w' pm v L := h.chg (Chg.below hb (Nat.le_refl _) []) (by simp) (by simp) (by simp)
theorem RmS.cell (h : RmS w0 wr pm v L) : wr.cell? ⟨pm, 0, none⟩ = some v := (Joins.cell_of_block h.blk 0).trans rfl
theorem RmS.slice (h : RmS w0 wr pm v L) : ∃ q c, v = .slice q L.length c := own_slice h.own
theorem RmS.rd {q : Option Addr} {n c : Nat} (h : RmS w0 wr pm (.slice q n c) L) : L = [] ∨ ∃ b, q = some ⟨b, 0, none⟩ ∧ (Value.slice q n c).ownBlock = some b ∧ b < wr.heap.size ∧ RdR wr b 0 L ∧ L.length ≤ c := by
  rcases h.own.2 with ⟨e, h0⟩ | ⟨g, cap, cur, e, _, hg, hnc, hcm, hcs', htake⟩
  · exact .inl (List.eq_nil_of_length_eq_zero h0)
  · simp only [Value.slice.injEq] at e
    obtain ⟨rfl, rfl, rfl⟩ := e
    refine .inr ⟨g, rfl, rfl, (Array.getElem?_eq_some_iff.1 hg).1, fun i hi => ?_, hnc⟩
    have hc2 : cur = (prs L ++ cur.toList.drop (L.length * 64)).toArray := by
      apply Array.ext'
      show cur.toList = prs L ++ cur.toList.drop (L.length * 64)
      rw [← htake, List.take_append_drop]
    rw [hc2] at hg
    rw [rowOf_block hg, Nat.zero_add, ← prs_mid (cur.toList.drop (L.length * 64)) h.ok i hi]
    simp [List.take_drop]
theorem RmS.np (h : RmS w0 wr pm v L) : v.ownBlock ≠ some pm := own_ne h.own h.blk (by decide)
end
theorem prOk_get {L : PrL} (ok : PrsOk L) {i : Nat} (hi : i < L.length) : PrOk (L.getD i pr0) := ok _ (by simp [List.getD, hi])
end Go.Proofs.YtjlodnecdngdfaaDoor
namespace Go.Proofs.YtjlodnecdngdfaaDoor
open Go.RowKit
set_option maxRecDepth 100000

set_option maxHeartbeats 8000000 in
theorem find5_any {w0 w : World} {pm : Nat} {v : Value} {L : PrL} {K : List Int} (hw0 : RmS w0 w pm v L) (hK : KyOk K) (hl : L.length ≤ 1000000) :
    Calls Tryd.prog 36 #[.pointer (some ⟨pm, 0, none⟩), .agg (hc K).toArray] w fun e w' => e = .returned (.tuple #[.int .i64 (fiR K L : Int), .bool (thR K L)]) ∧ Below w.heap.size w w' := by
  obtain ⟨q, c, rfl⟩ := hw0.slice
  have b1 : Below w.heap.size w (w.alloc (.cells (hc K).toArray 24)) := (Below.refl _ _).alloc (Nat.le_refl _) _
  have HK0 := Lib.hid (HashAt.new w K)
  have M0 := Lib.hid (hw0.on b1)
  have HKY := Lib.hid hK
  have lK := hK.len
  have hlK := hc_len K
  have OK := Lib.hid hw0.ok
  have B0 := Lib.hid b1
  clear hw0 b1 hK
  go_enter Tryd.func36, Tryd.ntmps36
  go_wp2_with fail
  go_loopw [6] (fun iv wr => ∃ i : Nat, iv = .int .i64 (i : Int) ∧ i ≤ L.length ∧ i ≤ fiR K L ∧ Hid (RmS w0 wr pm (.slice q L.length c) L) ∧ Hid (HashAt wr w.heap.size K) ∧ Hid (Below w.heap.size w wr)) (fun iv _ => L.length - (intOf iv).toNat)
  case atStart => exact ⟨0, rfl, by omega, by omega, M0, HK0, B0⟩
  case round =>
    clear M0 HK0 B0
    obtain ⟨i, rfl, hil, hif, MS, HK1, BW⟩ := hrel
    have c0 := MS.out.cell
    by_cases hlt : i < L.length
    · have hltI : (i : Int) < (L.length : Int) := by omega
      obtain ⟨b, rfl, -, -, rd, -⟩ := MS.out.rd.resolve_left (fun e => by rw [e] at hlt; simp at hlt)
      have OKX := Lib.hid (prOk_get OK.out hlt)
      have RK : Hid (∀ W, Below wr.heap.size wr W → rowOf W b (i * 64) 32 = hc (L.getD i pr0).1 ∧ True) := fun W hW => by
        have := (rowOf_half OKX.out.k.len OKX.out.l ((rd.on OK.out hW) i hlt)).1
        rw [Nat.zero_add] at this
        exact ⟨this, trivial⟩
      have HIL : Hid (cmpB (L.getD i pr0).1 K < 0 → i + 1 ≤ fiR K L) := fun h => by
        rcases Nat.lt_or_ge i (fiR K L) with h1 | h1
        · exact h1
        · obtain rfl : i = fiR K L := by omega
          exact absurd h (fiR_at hlt)
      have HIG : Hid (¬ cmpB (L.getD i pr0).1 K < 0 → i = fiR K L ∧ thR K L = ((L.getD i pr0).1 == K)) := fun h => by
        have e : i = fiR K L := by
          rcases Nat.lt_or_ge i (fiR K L) with h1 | h1
          · exact absurd (fiR_lt h1) h
          · omega
        refine ⟨e, ?_⟩
        unfold thR
        rw [← e, decide_eq_true hlt, Bool.true_and]
      have lG := OKX.out.k.len
      have hlG := hc_len (L.getD i pr0).1
      obtain ⟨G, hG⟩ : ∃ G, (L.getD i pr0).1 = G := ⟨_, rfl⟩
      have OKG : Hid (KyOk G) := by show KyOk G; rw [← hG]; exact OKX.out.k
      rw [hG] at RK HIL HIG lG hlG
      have g0 : (0 : Int) ≤ (i : Int) := by omega
      clear rd OKX hG
      by_cases hcm : cmpB G K < 0
      · have HLE : Hid (decide (cmpB G K < 0) = true) := decide_eq_true hcm
        have HI := Lib.hid (HIL.out hcm)
        clear hcm HIL HIG hif
        go_upto_region 4 with fail
        clear c0
        refine wp_region_held_drew (S := fun W => Below wr.heap.size wr W) (by kernel_rfl) ((Below.refl _ _).drew) (fun h0 => ?_)
        refine wpAnyH_take (i := 0) (v := ?_) (by rw [List.getElem?_toArray]; rfl) (by kernel_rfl) (by kernel_rfl) (by kernel_rfl) (by exact fun _ _ _ h => h) (Or.inl ⟨by rfl, ?_⟩) h0 ?_
        rotate_left
        · intro W hW
          go_simp
          all_goals with_reducible rfl
        try simp only [Act.put, List.setIfInBounds_toArray, List.set_cons_zero, List.set_cons_succ]
        refine wpAnyH_take (i := 1) (v := ?_) (by rw [List.getElem?_toArray]; rfl) (by kernel_rfl) (by kernel_rfl) (by kernel_rfl) (by exact fun _ _ _ h => h) (Or.inl ⟨by rfl, ?_⟩) h0 ?_
        rotate_left
        · intro W hW
          go_simp
          all_goals with_reducible rfl
        try simp only [Act.put, List.setIfInBounds_toArray, List.set_cons_zero, List.set_cons_succ]
        refine wpAnyH_take (i := 2) (v := ?_) (by rw [List.getElem?_toArray]; rfl) (by kernel_rfl) (by kernel_rfl) (by kernel_rfl) (by exact fun _ _ _ h => h) (Or.inl ⟨by rfl, ?_⟩) h0 ?_
        rotate_left
        · intro W hW
          go_simp
          all_goals with_reducible rfl
        try simp only [Act.put, List.setIfInBounds_toArray, List.set_cons_zero, List.set_cons_succ]
        refine wpAnyH_take (i := 3) (v := ?_) (by rw [List.getElem?_toArray]; rfl) (by kernel_rfl) (by kernel_rfl) (by kernel_rfl) (by exact fun _ _ _ h => h) (Or.inl ⟨by rfl, ?_⟩) h0 ?_
        rotate_left
        · intro W hW
          have cc := (MS.out.on hW).cell
          go_simp
          all_goals with_reducible rfl
        try simp only [Act.put, List.setIfInBounds_toArray, List.set_cons_zero, List.set_cons_succ]
        refine wpAnyH_take (i := 4) (v := ?_) (by rw [List.getElem?_toArray]; rfl) (by kernel_rfl) (by kernel_rfl) (by kernel_rfl) (by exact fun _ _ _ h => h) (Or.inl ⟨by rfl, ?_⟩) h0 ?_
        rotate_left
        · intro W hW
          go_simp
          all_goals with_reducible rfl
        try simp only [Act.put, List.setIfInBounds_toArray, List.set_cons_zero, List.set_cons_succ]
        refine wpAnyH_take (i := 5) (v := ?_) (by rw [List.getElem?_toArray]; rfl) (by kernel_rfl) (by kernel_rfl) (by kernel_rfl) (by exact fun _ _ _ h => h) (Or.inl ⟨by rfl, ?_⟩) h0 ?_
        rotate_left
        · intro W hW
          go_simp
          all_goals with_reducible rfl
        try simp only [Act.put, List.setIfInBounds_toArray, List.set_cons_zero, List.set_cons_succ]
        refine wpAnyH_take (i := 6) (v := ?_) (by rw [List.getElem?_toArray]; rfl) (by kernel_rfl) (by kernel_rfl) (by kernel_rfl) (by exact fun _ _ _ h => h) (Or.inl ⟨by rfl, ?_⟩) h0 ?_
        rotate_left
        · intro W hW
          go_simp
          all_goals with_reducible rfl
        try simp only [Act.put, List.setIfInBounds_toArray, List.set_cons_zero, List.set_cons_succ]
        refine wpAnyH_take (i := 7) (v := ?_) (by rw [List.getElem?_toArray]; rfl) (by kernel_rfl) (by kernel_rfl) (by kernel_rfl) (by exact fun _ _ _ h => h) (Or.inl ⟨by rfl, ?_⟩) h0 ?_
        rotate_left
        · intro W hW
          have cc := (RK.out W hW).1
          go_simp
          all_goals with_reducible rfl
        try simp only [Act.put, List.setIfInBounds_toArray, List.set_cons_zero, List.set_cons_succ]
        refine wpAnyH_take (i := 8) (v := ?_) (by rw [List.getElem?_toArray]; rfl) (by kernel_rfl) (by kernel_rfl) (by kernel_rfl) (by exact fun _ _ _ h => h) (Or.inl ⟨by rfl, ?_⟩) h0 ?_
        rotate_left
        · intro W hW
          have cc := (HK1.out.on hW).row lK
          go_simp
          all_goals with_reducible rfl
        try simp only [Act.put, List.setIfInBounds_toArray, List.set_cons_zero, List.set_cons_succ]
        refine wpAnyH_ready (rs := [9]) (by kernel_rfl) (by simp) ?_
        refine AllReadyH.cons (by rw [List.getElem?_toArray]; rfl) (fun KX hKK => ?_) AllReadyH.nil
        first | rw [if_pos (by rfl)] | skip
        go_wp2_with fail
        refine (less_any OKG.out HKY.out).mono ?_
        rintro e w5 ⟨rfl, b5⟩
        have hS : Below wr.heap.size wr w5 := h0.trans (b5.mono h0.size)
        have B5 := Lib.hid hS
        rw [HLE.out]
        clear b5
        go_wp2_with fail
        refine hKK.out _ _ (hS) (fun h0 => ?_)
        clear hKK KX
        try simp only [Act.put, List.setIfInBounds_toArray, List.set_cons_zero, List.set_cons_succ]
        refine wpAnyH_take (i := 10) (v := ?_) (by rw [List.getElem?_toArray]; rfl) (by kernel_rfl) (by kernel_rfl) (by kernel_rfl) (by exact fun _ _ _ h => h) (Or.inl ⟨by rfl, ?_⟩) h0 ?_
        rotate_left
        · intro W hW
          go_simp
          all_goals with_reducible rfl
        try simp only [Act.put, List.setIfInBounds_toArray, List.set_cons_zero, List.set_cons_succ]
        refine wpAnyH_done (by kernel_rfl) ?_ _
        clear h0
        go_wp2_with fail
        go_roundw
        case rel => exact ⟨i + 1, by go_num, by omega, by have := HI.out; omega, Lib.hid (MS.out.on B5.out), Lib.hid (HK1.out.on B5.out), Lib.hid (BW.out.trans (B5.out.mono BW.out.size))⟩
        case measure => simp [intOf]; omega

      · have HLE : Hid (decide (cmpB G K < 0) = false) := decide_eq_false hcm
        have HI := Lib.hid (HIG.out hcm).1
        have HTH := Lib.hid (HIG.out hcm).2
        clear hcm HIL HIG hif
        go_upto_region 4 with fail
        clear c0
        refine wp_region_held_drew (S := fun W => Below wr.heap.size wr W) (by kernel_rfl) ((Below.refl _ _).drew) (fun h0 => ?_)
        refine wpAnyH_take (i := 0) (v := ?_) (by rw [List.getElem?_toArray]; rfl) (by kernel_rfl) (by kernel_rfl) (by kernel_rfl) (by exact fun _ _ _ h => h) (Or.inl ⟨by rfl, ?_⟩) h0 ?_
        rotate_left
        · intro W hW
          go_simp
          all_goals with_reducible rfl
        try simp only [Act.put, List.setIfInBounds_toArray, List.set_cons_zero, List.set_cons_succ]
        refine wpAnyH_take (i := 1) (v := ?_) (by rw [List.getElem?_toArray]; rfl) (by kernel_rfl) (by kernel_rfl) (by kernel_rfl) (by exact fun _ _ _ h => h) (Or.inl ⟨by rfl, ?_⟩) h0 ?_
        rotate_left
        · intro W hW
          go_simp
          all_goals with_reducible rfl
        try simp only [Act.put, List.setIfInBounds_toArray, List.set_cons_zero, List.set_cons_succ]
        refine wpAnyH_take (i := 2) (v := ?_) (by rw [List.getElem?_toArray]; rfl) (by kernel_rfl) (by kernel_rfl) (by kernel_rfl) (by exact fun _ _ _ h => h) (Or.inl ⟨by rfl, ?_⟩) h0 ?_
        rotate_left
        · intro W hW
          go_simp
          all_goals with_reducible rfl
        try simp only [Act.put, List.setIfInBounds_toArray, List.set_cons_zero, List.set_cons_succ]
        refine wpAnyH_take (i := 3) (v := ?_) (by rw [List.getElem?_toArray]; rfl) (by kernel_rfl) (by kernel_rfl) (by kernel_rfl) (by exact fun _ _ _ h => h) (Or.inl ⟨by rfl, ?_⟩) h0 ?_
        rotate_left
        · intro W hW
          have cc := (MS.out.on hW).cell
          go_simp
          all_goals with_reducible rfl
        try simp only [Act.put, List.setIfInBounds_toArray, List.set_cons_zero, List.set_cons_succ]
        refine wpAnyH_take (i := 4) (v := ?_) (by rw [List.getElem?_toArray]; rfl) (by kernel_rfl) (by kernel_rfl) (by kernel_rfl) (by exact fun _ _ _ h => h) (Or.inl ⟨by rfl, ?_⟩) h0 ?_
        rotate_left
        · intro W hW
          go_simp
          all_goals with_reducible rfl
        try simp only [Act.put, List.setIfInBounds_toArray, List.set_cons_zero, List.set_cons_succ]
        refine wpAnyH_take (i := 5) (v := ?_) (by rw [List.getElem?_toArray]; rfl) (by kernel_rfl) (by kernel_rfl) (by kernel_rfl) (by exact fun _ _ _ h => h) (Or.inl ⟨by rfl, ?_⟩) h0 ?_
        rotate_left
        · intro W hW
          go_simp
          all_goals with_reducible rfl
        try simp only [Act.put, List.setIfInBounds_toArray, List.set_cons_zero, List.set_cons_succ]
        refine wpAnyH_take (i := 6) (v := ?_) (by rw [List.getElem?_toArray]; rfl) (by kernel_rfl) (by kernel_rfl) (by kernel_rfl) (by exact fun _ _ _ h => h) (Or.inl ⟨by rfl, ?_⟩) h0 ?_
        rotate_left
        · intro W hW
          go_simp
          all_goals with_reducible rfl
        try simp only [Act.put, List.setIfInBounds_toArray, List.set_cons_zero, List.set_cons_succ]
        refine wpAnyH_take (i := 7) (v := ?_) (by rw [List.getElem?_toArray]; rfl) (by kernel_rfl) (by kernel_rfl) (by kernel_rfl) (by exact fun _ _ _ h => h) (Or.inl ⟨by rfl, ?_⟩) h0 ?_
        rotate_left
        · intro W hW
          have cc := (RK.out W hW).1
          go_simp
          all_goals with_reducible rfl
        try simp only [Act.put, List.setIfInBounds_toArray, List.set_cons_zero, List.set_cons_succ]
        refine wpAnyH_take (i := 8) (v := ?_) (by rw [List.getElem?_toArray]; rfl) (by kernel_rfl) (by kernel_rfl) (by kernel_rfl) (by exact fun _ _ _ h => h) (Or.inl ⟨by rfl, ?_⟩) h0 ?_
        rotate_left
        · intro W hW
          have cc := (HK1.out.on hW).row lK
          go_simp
          all_goals with_reducible rfl
        try simp only [Act.put, List.setIfInBounds_toArray, List.set_cons_zero, List.set_cons_succ]
        refine wpAnyH_ready (rs := [9]) (by kernel_rfl) (by simp) ?_
        refine AllReadyH.cons (by rw [List.getElem?_toArray]; rfl) (fun KX hKK => ?_) AllReadyH.nil
        first | rw [if_pos (by rfl)] | skip
        go_wp2_with fail
        refine (less_any OKG.out HKY.out).mono ?_
        rintro e w5 ⟨rfl, b5⟩
        have hS : Below wr.heap.size wr w5 := h0.trans (b5.mono h0.size)
        have B5 := Lib.hid hS
        rw [HLE.out]
        clear b5
        go_wp2_with fail
        refine hKK.out _ _ (hS) (fun h0 => ?_)
        clear hKK KX
        try simp only [Act.put, List.setIfInBounds_toArray, List.set_cons_zero, List.set_cons_succ]
        refine wpAnyH_take (i := 10) (v := ?_) (by rw [List.getElem?_toArray]; rfl) (by kernel_rfl) (by kernel_rfl) (by kernel_rfl) (by exact fun _ _ _ h => h) (Or.inl ⟨by rfl, ?_⟩) h0 ?_
        rotate_left
        · intro W hW
          go_simp
          all_goals with_reducible rfl
        try simp only [Act.put, List.setIfInBounds_toArray, List.set_cons_zero, List.set_cons_succ]
        refine wpAnyH_done (by kernel_rfl) ?_ _
        clear h0
        go_wp2_with fail
        have b6 : Below wr.heap.size wr w5.drew := B5.out.drew
        refine wp_region_held_drew (S := fun W => Below wr.heap.size wr W) (by kernel_rfl) (b6) (fun h0 => ?_)
        refine wpAnyH_take (i := 0) (v := ?_) (by rw [List.getElem?_toArray]; rfl) (by kernel_rfl) (by kernel_rfl) (by kernel_rfl) (by exact fun _ _ _ h => h) (Or.inl ⟨by rfl, ?_⟩) h0 ?_
        rotate_left
        · intro W hW
          go_simp
          all_goals with_reducible rfl
        try simp only [Act.put, List.setIfInBounds_toArray, List.set_cons_zero, List.set_cons_succ]
        refine wpAnyH_take (i := 1) (v := ?_) (by rw [List.getElem?_toArray]; rfl) (by kernel_rfl) (by kernel_rfl) (by kernel_rfl) (by exact fun _ _ _ h => h) (Or.inl ⟨by rfl, ?_⟩) h0 ?_
        rotate_left
        · intro W hW
          go_simp
          all_goals with_reducible rfl
        try simp only [Act.put, List.setIfInBounds_toArray, List.set_cons_zero, List.set_cons_succ]
        refine wpAnyH_take (i := 2) (v := ?_) (by rw [List.getElem?_toArray]; rfl) (by kernel_rfl) (by kernel_rfl) (by kernel_rfl) (by exact fun _ _ _ h => h) (Or.inl ⟨by rfl, ?_⟩) h0 ?_
        rotate_left
        · intro W hW
          go_simp
          all_goals with_reducible rfl
        try simp only [Act.put, List.setIfInBounds_toArray, List.set_cons_zero, List.set_cons_succ]
        refine wpAnyH_take (i := 3) (v := ?_) (by rw [List.getElem?_toArray]; rfl) (by kernel_rfl) (by kernel_rfl) (by kernel_rfl) (by exact fun _ _ _ h => h) (Or.inl ⟨by rfl, ?_⟩) h0 ?_
        rotate_left
        · intro W hW
          go_simp
          all_goals with_reducible rfl
        try simp only [Act.put, List.setIfInBounds_toArray, List.set_cons_zero, List.set_cons_succ]
        refine wpAnyH_take (i := 4) (v := ?_) (by rw [List.getElem?_toArray]; rfl) (by kernel_rfl) (by kernel_rfl) (by kernel_rfl) (by exact fun _ _ _ h => h) (Or.inl ⟨by rfl, ?_⟩) h0 ?_
        rotate_left
        · intro W hW
          have cc := (MS.out.on hW).cell
          go_simp
          all_goals with_reducible rfl
        try simp only [Act.put, List.setIfInBounds_toArray, List.set_cons_zero, List.set_cons_succ]
        refine wpAnyH_take (i := 5) (v := ?_) (by rw [List.getElem?_toArray]; rfl) (by kernel_rfl) (by kernel_rfl) (by kernel_rfl) (by exact fun _ _ _ h => h) (Or.inl ⟨by rfl, ?_⟩) h0 ?_
        rotate_left
        · intro W hW
          go_simp
          all_goals with_reducible rfl
        try simp only [Act.put, List.setIfInBounds_toArray, List.set_cons_zero, List.set_cons_succ]
        refine wpAnyH_take (i := 6) (v := ?_) (by rw [List.getElem?_toArray]; rfl) (by kernel_rfl) (by kernel_rfl) (by kernel_rfl) (by exact fun _ _ _ h => h) (Or.inl ⟨by rfl, ?_⟩) h0 ?_
        rotate_left
        · intro W hW
          go_simp
          all_goals with_reducible rfl
        try simp only [Act.put, List.setIfInBounds_toArray, List.set_cons_zero, List.set_cons_succ]
        refine wpAnyH_take (i := 7) (v := ?_) (by rw [List.getElem?_toArray]; rfl) (by kernel_rfl) (by kernel_rfl) (by kernel_rfl) (by exact fun _ _ _ h => h) (Or.inl ⟨by rfl, ?_⟩) h0 ?_
        rotate_left
        · intro W hW
          go_simp
          all_goals with_reducible rfl
        try simp only [Act.put, List.setIfInBounds_toArray, List.set_cons_zero, List.set_cons_succ]
        refine wpAnyH_take (i := 8) (v := ?_) (by rw [List.getElem?_toArray]; rfl) (by kernel_rfl) (by kernel_rfl) (by kernel_rfl) (by exact fun _ _ _ h => h) (Or.inl ⟨by rfl, ?_⟩) h0 ?_
        rotate_left
        · intro W hW
          have cc := (RK.out W hW).1
          go_simp
          all_goals with_reducible rfl
        try simp only [Act.put, List.setIfInBounds_toArray, List.set_cons_zero, List.set_cons_succ]
        refine wpAnyH_take (i := 9) (v := ?_) (by rw [List.getElem?_toArray]; rfl) (by kernel_rfl) (by kernel_rfl) (by kernel_rfl) (by exact fun _ _ _ h => h) (Or.inl ⟨by rfl, ?_⟩) h0 ?_
        rotate_left
        · intro W hW
          have cc := (HK1.out.on hW).row lK
          go_simp
          all_goals with_reducible rfl
        try simp only [Act.put, List.setIfInBounds_toArray, List.set_cons_zero, List.set_cons_succ]
        refine wpAnyH_take (i := 10) (v := ?_) (by rw [List.getElem?_toArray]; rfl) (by kernel_rfl) (by kernel_rfl) (by kernel_rfl) (by exact fun _ _ _ h => h) (Or.inl ⟨by rfl, ?_⟩) h0 ?_
        rotate_left
        · intro W hW
          go_simp
          all_goals with_reducible rfl
        try simp only [Act.put, List.setIfInBounds_toArray, List.set_cons_zero, List.set_cons_succ]
        refine wpAnyH_take (i := 11) (v := ?_) (by rw [List.getElem?_toArray]; rfl) (by kernel_rfl) (by kernel_rfl) (by kernel_rfl) (by exact fun _ _ _ h => h) (Or.inl ⟨by rfl, ?_⟩) h0 ?_
        rotate_left
        · intro W hW
          go_simp
          all_goals with_reducible rfl
        try simp only [Act.put, List.setIfInBounds_toArray, List.set_cons_zero, List.set_cons_succ]
        refine wpAnyH_take (i := 12) (v := ?_) (by rw [List.getElem?_toArray]; rfl) (by kernel_rfl) (by kernel_rfl) (by kernel_rfl) (by exact fun _ _ _ h => h) (Or.inl ⟨by rfl, ?_⟩) h0 ?_
        rotate_left
        · intro W hW
          go_simp
          all_goals with_reducible rfl
        try simp only [Act.put, List.setIfInBounds_toArray, List.set_cons_zero, List.set_cons_succ]
        refine wpAnyH_done (by kernel_rfl) ?_ _
        clear h0
        go_wp2_with fail
        refine bodyPost_ret (v := .tuple #[.int .i64 (i : Int), .bool (G == K)]) (by simp [results, Tryd.results36, go_sem]) rfl ?_
        exact ⟨by rw [HTH.out, HI.out], BW.out.trans (B5.out.drew.mono BW.out.size)⟩

    · have hnl : ¬ (i : Int) < (L.length : Int) := by omega
      have hfl : fiR K L = L.length := by have := fiR_le K L; omega
      have hth : thR K L = false := by unfold thR; rw [hfl]; simp
      go_wp2_with fail
      refine bodyPost_ret (v := .tuple #[.int .i64 (L.length : Int), .bool false]) (by simp [results, Tryd.results36, go_sem]) rfl ?_
      exact ⟨by first | rfl | rw [hfl, hth], BW.out⟩
end Go.Proofs.YtjlodnecdngdfaaDoor
namespace Go.Proofs.YtjlodnecdngdfaaDoor
open Go.RowKit
set_option maxRecDepth 100000

/-! ### Parts of a row -/
def cutR (x : Value) (lo hi : Option Value) : Sem Value := Instr.sliceAt 22 x lo hi none
def cutQ (q : Option Addr) (c i : Nat) : Option Addr := if c = i then q else q.map (·.add (i * 64))
theorem Tryd.size_pr5 (w : World) : (sizeOf 37).run Tryd.prog w = .ok 64 w := by kernel_rfl
@[go_sem] theorem run_cut_to (w : World) (q : Option Addr) (n c i : Nat) (h : i ≤ c) :
    (cutR (.slice q n c) none (some (.int .i64 (i : Int)))).run Tryd.prog w = .ok (.slice q i c) w := by
  have e : (i : Int).toNat = i := by omega
  have hsz := Tryd.size_pr5 w
  unfold cutR
  simp [Instr.sliceAt, Instr.slice, Instr.sliceBounds, Instr.sliceBound, asIntOf, run_underlying Tryd.underlying22, hsz, go_sem, h]
@[go_sem] theorem run_cut_from (w : World) (q : Option Addr) (n c i : Nat) (h : i ≤ n) :
    (cutR (.slice q n c) (some (.int .i64 (i : Int))) none).run Tryd.prog w = .ok (.slice (cutQ q c i) (n - i) (c - i)) w := by
  have e : (i : Int).toNat = i := by omega
  have hsz := Tryd.size_pr5 w
  unfold cutR
  simp [cutQ, Instr.sliceAt, Instr.slice, Instr.sliceBounds, Instr.sliceBound, asIntOf, run_underlying Tryd.underlying22, hsz, go_sem, h]
@[go_sem ↓] theorem Tryd.cut_is (x : Value) (lo hi : Option Value) : Instr.sliceAt 22 x lo hi none = cutR x lo hi := rfl
theorem RmS.cap {w0 wr : World} {pm : Nat} {q : Option Addr} {n c : Nat} {L : PrL} (h : RmS w0 wr pm (.slice q n c) L) : n = L.length ∧ L.length ≤ c := by
  obtain ⟨q', c', e⟩ := h.slice
  simp only [Value.slice.injEq] at e
  obtain ⟨rfl, rfl, rfl⟩ := e
  refine ⟨rfl, ?_⟩
  rcases h.rd with h0 | ⟨b, -, -, -, -, h6⟩
  · rw [h0]; simp
  · exact h6
theorem RmS.srcTo {w0 wr : World} {pm : Nat} {q : Option Addr} {n c : Nat} {L : PrL} (h : RmS w0 wr pm (.slice q n c) L) {i : Nat} (hi : i ≤ L.length) : Src Tryd.prog 64 22 (.slice q i c) i (prs (L.take i)) wr := by
  have hk := Tryd.underlying22
  rcases h.rd with h0 | ⟨b, rfl, -, -, h4, -⟩
  · obtain rfl : i = 0 := by rw [h0] at hi; simpa using hi
    rw [List.take_zero]
    cases q with
    | none => exact Src.ofNil wr hk c
    | some a => exact Src.ofSlice wr hk a 0 c [] (by simp) (fun j u hu => by simp at hu) (by simp)
  · have := (h4.take i).src (P := Tryd.prog) (c := c) (fun x hx => h.ok x (List.mem_of_mem_take hx)) hk
    rw [List.length_take, Nat.min_eq_left hi] at this
    exact this
theorem RmS.srcFrom {w0 wr : World} {pm : Nat} {q : Option Addr} {n c : Nat} {L : PrL} (h : RmS w0 wr pm (.slice q n c) L) {i : Nat} (hi : i ≤ L.length) : Src Tryd.prog 64 22 (.slice (cutQ q c i) (L.length - i) (c - i)) (L.length - i) (prs (L.drop i)) wr := by
  have hk := Tryd.underlying22
  have key : ∀ (q' : Option Addr) (c' : Nat), Src Tryd.prog 64 22 (.slice q' 0 c') 0 (prs []) wr := fun q' c' => by
    cases q' with
    | none => exact Src.ofNil wr hk c'
    | some a => exact Src.ofSlice wr hk a 0 c' [] (by simp) (fun j u hu => by simp at hu) (by simp)
  by_cases he : L.length = i
  · rw [← he, Nat.sub_self, List.drop_length]
    exact key _ _
  · rcases h.rd with h0 | ⟨b, rfl, -, -, h4, h6⟩
    · rw [h0] at hi he; simp at hi he; omega
    · have hn : ¬ c = i := by omega
      have e : (some (⟨b, 0, none⟩ : Addr)).map (·.add (i * 64)) = some ⟨b, i * 64, none⟩ := by simp [addr_add]
      unfold cutQ
      rw [if_neg hn, e]
      have := (h4.drop i).src (P := Tryd.prog) (c := c - i) (fun x hx => h.ok x (List.mem_of_mem_drop hx)) hk
      rw [List.length_drop, Nat.zero_add] at this
      exact this
theorem RdR.chg {w w' : World} {b off : Nat} {L : PrL} {S : List Nat} (h : RdR w b off L) (hl : b < w.heap.size) (hc : Chg w w' S) (hb : b ∉ S) : RdR w' b off L := fun i hi => by
  rw [rowOf_agr (hc.block b hl hb)]; exact h i hi
/-- What is laid anew by now. -/
structure AcS (w1 W : World) (acc : Value) (n : Nat) (xs : List Value) (lit : Option Nat) (x : List Int × List Int) : Prop where
  below : Below w1.heap.size w1 W
  own : W.ownsRow 0 37 64 acc n xs
  fresh : ∀ g, acc.ownBlock = some g → w1.heap.size ≤ g
  lit : ∀ b, lit = some b → RdR W b 0 [x] ∧ acc.ownBlock ≠ some b ∧ b < W.heap.size
section
variable {w1 W W' : World} {acc acc' : Value} {n : Nat} {xs : List Value} {lit : Option Nat} {x : List Int × List Int}
theorem AcS.start (w1 : World) (x : List Int × List Int) : AcS w1 w1 (.slice none 0 0) 0 [] none x := ⟨Below.refl _ _, World.ownsRow_nil w1 0 _ 64, by simp [Value.ownBlock], fun b h => by cases h⟩
theorem AcS.on (h : AcS w1 W acc n xs lit x) (ok : PrOk x) (hb : Below W.heap.size W W') : AcS w1 W' acc n xs lit x :=
  ⟨h.below.trans (hb.mono h.below.size), own_on h.own hb, h.fresh, fun b e => by
    obtain ⟨h1, h2, h3⟩ := h.lit b e
    exact ⟨h1.on (fun y hy => by rw [List.mem_singleton.1 hy]; exact ok) hb, h2, Nat.lt_of_lt_of_le h3 hb.size⟩⟩
theorem AcS.empty (h : AcS w1 W acc n xs lit x) (ok : PrOk x) : AcS w1 (W.alloc (.cells #[] 37)) (.slice (some ⟨W.heap.size, 0, none⟩) 0 0) 0 [] lit x := by
  have h2 := h.on ok (W' := W.alloc (.cells #[] 37)) ((Below.refl _ _).alloc (Nat.le_refl _) _)
  refine ⟨h2.below, own_empty W _ 64, fun g hg => ?_, fun b e => ?_⟩
  · obtain rfl : W.heap.size = g := by simpa [Value.ownBlock] using hg
    exact h.below.size
  · obtain ⟨h3, -, h5⟩ := h2.lit b e
    refine ⟨h3, fun hg => ?_, h5⟩
    obtain rfl : W.heap.size = b := by simpa [Value.ownBlock] using hg
    have := (h.lit _ e).2.2; omega
theorem AcS.literal (h : AcS w1 W acc n xs lit x) (ok : PrOk x) : AcS w1 (W.alloc (.cells (prRow x.1 x.2).toArray 37)) acc n xs (some W.heap.size) x := by
  have h2 := h.on ok (W' := W.alloc (.cells (prRow x.1 x.2).toArray 37)) ((Below.refl _ _).alloc (Nat.le_refl _) _)
  refine ⟨h2.below, h2.own, h2.fresh, fun b e => ?_⟩
  obtain rfl := Option.some.inj e
  refine ⟨fun i hi => ?_, fun hg => ?_, by simp⟩
  · obtain rfl : i = 0 := by simpa using hi
    rw [rowOf_block (heap_alloc_new W _)]
    have := prRow_len ok.k.len ok.l
    simp [List.take_of_length_le (Nat.le_of_eq this)]
  · have := own_lt h.own hg; omega
theorem AcS.app {q : Option Addr} {m k : Nat} {ys : List Value} (h : AcS w1 W acc n xs lit x) (own : W'.ownsRow 0 37 64 (.slice q m k) m ys) (grow : W.grownBy W' acc.ownBlock) (fr : (Value.slice q m k).ownBlock = acc.ownBlock ∨ (Value.slice q m k).ownBlock = some W.heap.size) : AcS w1 W' (.slice q m k) m ys lit x := by
  have hc : Chg W W' acc.ownBlock.toList := Chg.grown grow (fun g hg => by simp [hg])
  refine ⟨h.below.grown grow h.below.size (fun g hg => h.fresh g hg), own, fun g hg => ?_, fun b e => ?_⟩
  · rcases fr with e | e
    · rw [e] at hg; exact h.fresh g hg
    · rw [e] at hg; have := h.below.size; simp at hg; omega
  · obtain ⟨h1, h2, h3⟩ := h.lit b e
    refine ⟨h1.chg h3 hc (fun hm => h2 (by simpa using hm)), fun hg => ?_, Nat.lt_of_lt_of_le h3 hc.size⟩
    rcases fr with e2 | e2
    · rw [e2] at hg; exact h2 hg
    · rw [e2] at hg; simp at hg; omega
end
theorem Tryd.infoPr5 : (Tryd.prog.info? 37).map (fun i => (i.zero, i.size, i.bytes)) = some (some (.agg (prRow zero32 zero32).toArray), 64, 64) := by kernel_rfl
theorem zero_cellsP : (Value.agg (prRow zero32 zero32).toArray).cells.size = 64 := by rfl
@[go_sem ↓] theorem Tryd.zero_pr5 (w : World) : (zeroValue 37).run Tryd.prog w = .ok (.agg (prRow zero32 zero32).toArray) w := by kernel_rfl
theorem Tryd.built_pr5 (ps : List (Nat × Value)) : Tryd.prog.built 37 ps = Instr.fill (fun i => prPlaces.toArray[i]?) (prRow zero32 zero32).toArray ps := by kernel_rfl
@[go_sem ↓] theorem Tryd.build_pr5 (ps : Array (Nat × Value)) : Instr.build 37 ps = rowBuild 37 ps := rfl
@[go_sem] theorem Tryd.run_pr5 (w : World) (K V : List Int) (hK : K.length = 32) (hV : V.length = 32) :
    (rowBuild 37 #[(0, .agg (hc K).toArray), (1, .agg (hc V).toArray)]).run Tryd.prog w = .ok (.agg (prRow K V).toArray) w := by
  refine run_build w _ _ _ ?_
  rw [Tryd.built_pr5]
  show Instr.fill _ _ ((0, Value.agg (hc K).toArray) :: (1, Value.agg (hc V).toArray) :: []) = _
  have z1 : prRow zero32 zero32 = [] ++ (hc zero32 ++ (hc zero32 ++ [])) := rfl
  rw [z1, fill_at (i := 0) (off := 0) (size := 32) (vs := hc K) rfl rfl rfl rfl (by rw [hc_len, hK])]
  rw [List.nil_append]
  rw [fill_at (i := 1) (off := 32) (size := 32) (vs := hc V) rfl rfl (by rw [hc_len, hK]) rfl (by rw [hc_len, hV])]
  rfl
@[go_sem ↓] theorem Tryd.slice_pr5 (ps : Array (Nat × Value)) : Instr.buildSlice 22 1 ps = rowNew 22 ps := rfl
@[go_sem] theorem Tryd.run_slice_pr5 (w : World) (K V : List Int) (hK : K.length = 32) (hV : V.length = 32) :
    (rowNew 22 #[(0, .agg (prRow K V).toArray)]).run Tryd.prog w = .ok (.slice (some ⟨w.heap.size, 0, none⟩) 1 1) (w.alloc (.cells (prRow K V).toArray 37)) :=
  run_bs_one w Tryd.underlying22 (by kernel_rfl) (Tryd.zero_pr5 w) (n := 64) (by decide) (by decide) (prRow_len hK hV)
end Go.Proofs.YtjlodnecdngdfaaDoor
namespace Go.Proofs.YtjlodnecdngdfaaDoor
set_option maxRecDepth 100000
open Go.RowKit

set_option maxHeartbeats 2000000 in
theorem pbit_any {w : World} {K : List Int} {i : Nat} (hK : K.length = 32) (bK : Bytes K) (hi : i < 256) : Calls Tryd.prog 63 #[.agg (hc K).toArray, .int .i64 i] w fun e w' => e = .returned (.int .i64 (bitI K i)) ∧ Below w.heap.size w w' := by
  have H0 := HashAt.new w K
  have B0 := Lib.hid ((Below.refl w.heap.size w).alloc (Nat.le_refl _) (.cells (hc K).toArray 24))
  have hc0 := H0.cell (i := i / 8) (by omega)
  have hb := bK.getD (i / 8)
  obtain ⟨x, hx⟩ : ∃ x : Nat, K.getD (i / 8) 0 = (x : Int) := ⟨(K.getD (i / 8) 0).toNat, by omega⟩
  have hR : Hid (bitI K i = ((x / 2 ^ (7 - i % 8) : Nat) : Int) % 2) := by
    show bitI K i = _
    unfold bitI
    rw [hx, Int.natCast_ediv, Int.natCast_pow]
    rfl
  rw [hx] at hc0 hb
  clear hx bK
  have e1 : ((i : Nat) : Int).tdiv 8 = ((i / 8 : Nat) : Int) := by
    rw [Int.tdiv_eq_ediv_of_nonneg (by omega)]; omega
  have e2 : ((i : Nat) : Int).tmod 8 = ((i % 8 : Nat) : Int) := by
    rw [Int.tmod_eq_emod_of_nonneg (by omega)]; omega
  have hlK := hc_len K
  have hs : x / 2 ^ (7 - i % 8) ≤ x := Nat.div_le_self _ _
  have hd : ((x : Int) / 2 ^ (7 - i % 8)) = ((x / 2 ^ (7 - i % 8) : Nat) : Int) := by rw [Int.natCast_ediv, Int.natCast_pow]; rfl
  generalize x / 2 ^ (7 - i % 8) = y at hs hd hR
  have e3 : wrap64 ((x : Int) / 2 ^ (7 - i % 8)) = (y : Int) := by
    rw [hd]
    unfold wrap64
    omega
  have e4 := and_one (x := y) (by omega)
  clear hd
  go_enter Tryd.func63, Tryd.ntmps63
  go_wp2_with fail
  go_ret
  exact ⟨by rw [hR.out]; rfl, B0.out⟩
set_option maxHeartbeats 2000000 in
theorem rbit_any {w : World} {K : List Int} {i : Nat} (hK : K.length = 32) (bK : Bytes K) (hi : i < 256) : Calls Tryd.prog 47 #[.agg (hc K).toArray, .int .i64 i] w fun e w' => e = .returned (.int .i64 (bitI K i)) ∧ Below w.heap.size w w' := by
  have H0 := HashAt.new w K
  have B0 := Lib.hid ((Below.refl w.heap.size w).alloc (Nat.le_refl _) (.cells (hc K).toArray 24))
  have hc0 := H0.cell (i := i / 8) (by omega)
  have hb := bK.getD (i / 8)
  obtain ⟨x, hx⟩ : ∃ x : Nat, K.getD (i / 8) 0 = (x : Int) := ⟨(K.getD (i / 8) 0).toNat, by omega⟩
  have hR : Hid (bitI K i = ((x / 2 ^ (7 - i % 8) : Nat) : Int) % 2) := by
    show bitI K i = _
    unfold bitI
    rw [hx, Int.natCast_ediv, Int.natCast_pow]
    rfl
  rw [hx] at hc0 hb
  clear hx bK
  have e1 : ((i : Nat) : Int).tdiv 8 = ((i / 8 : Nat) : Int) := by
    rw [Int.tdiv_eq_ediv_of_nonneg (by omega)]; omega
  have e2 : ((i : Nat) : Int).tmod 8 = ((i % 8 : Nat) : Int) := by
    rw [Int.tmod_eq_emod_of_nonneg (by omega)]; omega
  have hlK := hc_len K
  have hs : x / 2 ^ (7 - i % 8) ≤ x := Nat.div_le_self _ _
  have hd : ((x : Int) / 2 ^ (7 - i % 8)) = ((x / 2 ^ (7 - i % 8) : Nat) : Int) := by rw [Int.natCast_ediv, Int.natCast_pow]; rfl
  generalize x / 2 ^ (7 - i % 8) = y at hs hd hR
  have e3 : wrap64 ((x : Int) / 2 ^ (7 - i % 8)) = (y : Int) := by
    rw [hd]
    unfold wrap64
    omega
  have e4 : (y : Int).tmod 2 = (y : Int) % 2 := Int.tmod_eq_emod_of_nonneg (by omega)
  have e5 : IntKind.u64.wrap (7 - (i : Int) % 8) = 7 - (i : Int) % 8 := by rw [IntKind.wrap_u64]; omega
  clear hd
  go_enter Tryd.func47, Tryd.ntmps47
  go_wp2_with fail
  go_ret
  exact ⟨by rw [hR.out]; rfl, B0.out⟩

/-- How many of the first n bits are set. -/
def cntI (M : List Int) : Nat → Nat
  | 0 => 0
  | n + 1 => cntI M n + (bitI M n).toNat
/-- May a proof be? -/
def okS (M : List Int) (Ss : List (List Int)) : Bool := decide (cntI M 256 = Ss.length ∧ zero32 ∉ Ss)
end Go.Proofs.YtjlodnecdngdfaaDoor
namespace Go.Proofs.YtjlodnecdngdfaaDoor
open Go.RowKit
set_option maxRecDepth 100000

/-- A row of pairs that can be read. -/
def RdQ (w : World) (q : Option Addr) (L : PrL) : Prop := L = [] ∨ ∃ b off, q = some ⟨b, off, none⟩ ∧ RdR w b off L
theorem RdQ.on {w w' : World} {q : Option Addr} {L : PrL} (h : RdQ w q L) (ok : PrsOk L) (hb : Below w.heap.size w w') : RdQ w' q L := by
  rcases h with h | ⟨b, off, e, h⟩
  · exact .inl h
  · exact .inr ⟨b, off, e, h.on ok hb⟩
theorem RdQ.take {w : World} {q : Option Addr} {L : PrL} (h : RdQ w q L) (i : Nat) : RdQ w q (L.take i) := by
  rcases h with h | ⟨b, off, e, h⟩
  · exact .inl (by rw [h]; simp)
  · exact .inr ⟨b, off, e, h.take i⟩
theorem RdQ.drop {w : World} {q : Option Addr} {c : Nat} {L : PrL} (h : RdQ w q L) {i : Nat} (hi : i ≤ L.length) (hc : L.length ≤ c) : RdQ w (cutQ q c i) (L.drop i) := by
  rcases h with h | ⟨b, off, rfl, h⟩
  · exact .inl (by rw [h]; simp)
  · by_cases he : c = i
    · exact .inl (List.drop_eq_nil_of_le (by omega))
    · refine .inr ⟨b, off + i * 64, ?_, h.drop i⟩
      unfold cutQ
      rw [if_neg he]
      simp [addr_add]
theorem RmS.rdq {w0 wr : World} {pm : Nat} {q : Option Addr} {n c : Nat} {L : PrL} (h : RmS w0 wr pm (.slice q n c) L) : RdQ wr q L := by
  rcases h.rd with h0 | ⟨b, e, -, -, h4, -⟩
  · exact .inl h0
  · exact .inr ⟨b, 0, e, h4⟩
/-- How many of a row go left at a level. -/
def ptR (d : Nat) : PrL → Nat
  | [] => 0
  | x :: L => if bitI x.1 d = 0 then ptR d L + 1 else 0
theorem ptR_le (d : Nat) : ∀ L : PrL, ptR d L ≤ L.length
  | [] => Nat.le_refl _
  | x :: L => by unfold ptR; split; simp; exact ptR_le d L; simp
theorem ptR_lt {d : Nat} : ∀ {L : PrL} {j : Nat}, j < ptR d L → bitI (L.getD j pr0).1 d = 0
  | [], j, h => by simp [ptR] at h
  | x :: L, j, h => by
    unfold ptR at h
    split at h
    · rename_i hx
      cases j with
      | zero => exact hx
      | succ j => simpa using ptR_lt (L := L) (by omega)
    · omega
theorem ptR_at {d : Nat} : ∀ {L : PrL}, ptR d L < L.length → bitI (L.getD (ptR d L) pr0).1 d = 1
  | [], h => by simp at h
  | x :: L, h => by
    unfold ptR at h ⊢
    by_cases hx : bitI x.1 d = 0
    · rw [if_pos hx] at h ⊢
      simpa using ptR_at (L := L) (by simpa using h)
    · rw [if_neg hx]
      have := bit01 x.1 d
      simp; omega
/-- In a rising row of keys with the same first bits those with a zero come first. -/
theorem ptR_split {d : Nat} {L : PrL} (hs : SrtR L) (ok : PrsOk L) (ha : ∀ x ∈ L, ∀ y ∈ L, AgreeB d x.1 y.1) (hd : d < 256) : (∀ x ∈ L.take (ptR d L), bitI x.1 d = 0) ∧ (∀ x ∈ L.drop (ptR d L), bitI x.1 d = 1) := by
  have hle := ptR_le d L
  constructor
  · intro x hx
    obtain ⟨i, hi, e⟩ := List.getElem_of_mem hx
    have hl : i < ptR d L := by simp at hi; omega
    have := ptR_lt hl
    rw [← e]
    simpa [List.getD, show i < L.length by omega] using this
  · intro x hx
    obtain ⟨i, hi, e⟩ := List.getElem_of_mem hx
    have hi2 : ptR d L + i < L.length := by simp at hi; omega
    have hx2 : L.getD (ptR d L + i) pr0 = x := by rw [← e]; simp [List.getD, hi2]
    have h1 := ptR_at (d := d) (L := L) (by omega)
    cases i with
    | zero => rw [Nat.add_zero] at hx2; rw [← hx2]; exact h1
    | succ i =>
      have hlt := srt_get hs (i := ptR d L) (j := ptR d L + (i + 1)) (by omega) hi2
      have m1 : L.getD (ptR d L) pr0 ∈ L := by simp [List.getD, show ptR d L < L.length by omega]
      have m2 : L.getD (ptR d L + (i + 1)) pr0 ∈ L := by rw [hx2]; exact List.mem_of_mem_drop hx
      obtain ⟨c1, c2, c3⟩ := cmp_dif (ok _ m1).k (ok _ m2).k hlt
      have hge : d ≤ dif (L.getD (ptR d L) pr0).1 (L.getD (ptR d L + (i + 1)) pr0).1 := dif_of (ha _ m1 _ m2) (by omega)
      rw [← hx2]
      rcases Nat.lt_or_ge d (dif (L.getD (ptR d L) pr0).1 (L.getD (ptR d L + (i + 1)) pr0).1) with h2 | h2
      · rw [← dif_agree _ _ d h2]; exact h1
      · have e2 : dif (L.getD (ptR d L) pr0).1 (L.getD (ptR d L + (i + 1)) pr0).1 = d := by omega
        rw [e2] at c2; omega

set_option maxHeartbeats 8000000 in
theorem part_any {w : World} {q : Option Addr} {c d : Nat} {L : PrL} (hq : RdQ w q L) (ok : PrsOk L) (hd : d < 256) (hl : L.length ≤ 1000000) :
    Calls Tryd.prog 46 #[.slice q L.length c, .int .i64 (d : Int)] w fun e w' => e = .returned (.int .i64 (ptR d L : Int)) ∧ Below w.heap.size w w' := by
  have HQ := Lib.hid hq
  have OK := Lib.hid ok
  have HD := Lib.hid hd
  clear hq ok hd
  go_enter Tryd.func46, Tryd.ntmps46
  go_wp2_with fail
  go_loopw [5] (fun iv wr => ∃ i : Nat, iv = .int .i64 (i : Int) ∧ i ≤ L.length ∧ Hid (i ≤ ptR d L) ∧ Hid (Below w.heap.size w wr)) (fun iv _ => L.length - (intOf iv).toNat)
  case atStart => exact ⟨0, rfl, by omega, Nat.zero_le _, Below.refl _ _⟩
  case round =>
    obtain ⟨i, rfl, hil, hif, BW⟩ := hrel
    by_cases hlt : i < L.length
    · have hltI : (i : Int) < (L.length : Int) := by omega
      obtain ⟨b, off, rfl, rd⟩ := (HQ.out.on OK.out BW.out).resolve_left (fun e => by rw [e] at hlt; simp at hlt)
      have OKX := Lib.hid (prOk_get OK.out hlt)
      have rK := (rowOf_half OKX.out.k.len OKX.out.l (rd i hlt)).1
      have HIL : Hid (bitI (L.getD i pr0).1 d = 0 → i + 1 ≤ ptR d L) := fun h => by
        rcases Nat.lt_or_ge i (ptR d L) with h1 | h1
        · exact h1
        · have e : i = ptR d L := by have := hif.out; omega
          have := ptR_at (d := d) (L := L) (by omega)
          rw [← e, h] at this; omega
      have HIG : Hid (bitI (L.getD i pr0).1 d = 1 → i = ptR d L) := fun h => by
        rcases Nat.lt_or_ge i (ptR d L) with h1 | h1
        · have := ptR_lt h1; omega
        · have := hif.out; omega
      have lG := OKX.out.k.len
      have hlG := hc_len (L.getD i pr0).1
      obtain ⟨G, hG⟩ : ∃ G, (L.getD i pr0).1 = G := ⟨_, rfl⟩
      have OKG : Hid (KyOk G) := by show KyOk G; rw [← hG]; exact OKX.out.k
      rw [hG] at rK HIL HIG lG hlG
      have g0 : (0 : Int) ≤ (i : Int) := by omega
      have RB := Lib.hid (rbit_any (w := wr) OKG.out.len OKG.out.by_ HD.out)
      clear rd OKX hG hif
      rcases bit01 G d with hb | hb
      · rw [hb] at RB
        have HI := Lib.hid (HIL.out hb)
        clear hb HIL HIG
        go_wp2_with fail
        refine RB.out.mono ?_
        rintro e w5 ⟨rfl, b5⟩
        have B5 := Lib.hid (BW.out.trans (b5.mono BW.out.size))
        clear b5 rK
        go_wp2_with fail
        go_roundw
        case rel => exact ⟨i + 1, by go_num, by omega, HI, B5⟩
        case measure => simp [intOf]; omega
      · rw [hb] at RB
        have HI := Lib.hid (HIG.out hb)
        clear hb HIL HIG
        go_wp2_with fail
        refine RB.out.mono ?_
        rintro e w5 ⟨rfl, b5⟩
        have B5 := Lib.hid (BW.out.trans (b5.mono BW.out.size))
        clear b5 rK
        go_wp2_with fail
        go_ret
        exact ⟨by rw [← HI.out]; rfl, B5.out⟩
    · have hnl : ¬ (i : Int) < (L.length : Int) := by omega
      have HI : Hid (i = ptR d L) := by have := hif.out; have := ptR_le d L; show _ = _; omega
      clear hif
      go_wp2_with fail
      go_ret
      exact ⟨by rw [← HI.out]; rfl, BW.out⟩
end Go.Proofs.YtjlodnecdngdfaaDoor
