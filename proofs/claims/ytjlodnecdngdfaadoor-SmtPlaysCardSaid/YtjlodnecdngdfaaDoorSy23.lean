/-
  The program's map and the document's side by side.; The document's map: a node's hash, and the root.; The document's Prove, plain: the pairs on a key's way, and those beside it.; The law's copy of a proof, and its Same of a proof and its copy.; The document's proof: its zero, and how it is built.
-/
import Derived.Test.YtjlodnecdngdfaaDoorSy2
import Derived.Test.YtjlodnecdngdfaaDoorSy13
import Derived.Test.YtjlodnecdngdfaaDoorSy16
import Derived.Test.YtjlodnecdngdfaaDoorSy20
import Derived.Test.YtjlodnecdngdfaaDoorSy21
import Derived.Test.YtjlodnecdngdfaaDoorSy22
namespace Go.Proofs.YtjlodnecdngdfaaDoor
open Go.RowKit
set_option maxRecDepth 100000

/-! ### Plain -/
def frE (L : List En) : PrL := L.map fun e => (e.k, e.v)
theorem frE_len (L : List En) : (frE L).length = L.length := List.length_map ..
theorem frE_get {L : List En} {i : Nat} (hi : i < L.length) : (L.getD i e0).k = ((frE L).getD i pr0).1 ∧ (L.getD i e0).v = ((frE L).getD i pr0).2 := by
  simp [frE, List.getD, hi]
theorem frE_v (k : List Int) : ∀ L : List En, vP (frE L) k = vR L k
  | [] => rfl
  | e :: L => by
    show vP ((e.k, e.v) :: frE L) k = vR (e :: L) k
    have h0 := frE_v k L
    by_cases h : k = e.k
    · unfold vP vR; rw [if_pos h, if_pos h]
    · unfold vP vR; rw [if_neg h, if_neg h]; exact h0
theorem pairs_same {E L1 : List En} {LP : PrL} (hp : L1.Perm E) (hs : SrtE L1) (hE : EnW E) (srt : SrtR LP) (nz : NzR LP) (hv : ∀ k, vOf E k = vP LP k) : frE L1 = LP := by
  refine srt_same ?_ srt (fun x hx => ?_) nz (fun k => ?_)
  · have hnd : (L1.map (·.k)).Nodup := (hp.map _).nodup_iff.2 hE.nd
    have hky : ∀ e ∈ L1, KyOk e.k := fun e he => ⟨(hE.b.ok e (hp.mem_iff.1 he)).1, hE.b.kb e (hp.mem_iff.1 he)⟩
    unfold SrtR frE
    rw [List.pairwise_map]
    have h2 : L1.Pairwise fun a b => a.k ≠ b.k := List.pairwise_map.1 hnd
    refine (List.pairwise_iff_getElem).2 fun i j hi hj hij => ?_
    have a1 := List.pairwise_iff_getElem.1 hs i j hi hj hij
    have a2 := List.pairwise_iff_getElem.1 h2 i j hi hj hij
    show cmpB L1[i].k L1[j].k < 0
    have a3 : cmpB L1[i].k L1[j].k ≠ 0 := fun e => a2 (cmp_eq (hky _ (List.getElem_mem hi)) (hky _ (List.getElem_mem hj)) e)
    omega
  · obtain ⟨e, he, rfl⟩ := List.mem_map.1 hx
    exact hE.nz e (hp.mem_iff.1 he)
  · rw [frE_v, vR_perm hp hE, hv]
theorem putsR_ok {L : PrL} (ok : PrsOk L) : ∀ i, i ≤ L.length → PrsOk (putsR (L.take i)) ∧ SrtR (putsR (L.take i)) ∧ NzR (putsR (L.take i))
  | 0, _ => by
    rw [List.take_zero]
    exact ⟨fun x hx => (by cases hx), List.Pairwise.nil, fun x hx => (by cases hx)⟩
  | i + 1, hi => by
    obtain ⟨h1, h2, h3⟩ := putsR_ok ok i (by omega)
    have hx := prOk_get ok (show i < L.length by omega)
    rw [putsR_step (by omega)]
    exact ⟨putR_ok h1 hx.k hx.l hx.b, putR_srt h2 h1 hx.k, putR_nz h3⟩
theorem puts_v {L : PrL} (ok : PrsOk L) (nd : (ksP L).Nodup) (k : List Int) : ∀ i, i ≤ L.length → vR (toEs (L.take i)) k = vP (putsR (L.take i)) k
  | 0, _ => by rw [List.take_zero]; rfl
  | i + 1, hi => by
    have hlt : i < L.length := by omega
    obtain ⟨h1, h2, -⟩ := putsR_ok ok i (by omega)
    have hx := prOk_get ok hlt
    rw [putsR_step hlt, putR_v h2 h1 hx.k, ← puts_v ok nd k i (by omega)]
    have e1 : (toEs L).length = L.length := toEs_len L
    have e2 : (toEs L).getD i e0 = toE (L.getD i pr0) := by simp [toEs, List.getD, hlt]
    have e3 : ∀ n, (toEs L).take n = toEs (L.take n) := fun n => by unfold toEs; rw [List.map_take]
    have hn : ((toEs L).map (·.k)).Nodup := by
      have : (toEs L).map (·.k) = ksP L := by simp [toEs, ksP, toE, Function.comp_def]
      rw [this]; exact nd
    have := vR_take (L := toEs L) (i := i) (by omega) hn k
    rw [e2, e3, e3] at this
    exact this
theorem toEs_nd {L : PrL} : ((toEs L).map (·.k)).Nodup ↔ (ksP L).Nodup := by
  have : (toEs L).map (·.k) = ksP L := by simp [toEs, ksP, toE, Function.comp_def]
  rw [this]

/-! ### Where they stand -/
structure SmS (w wr : World) (p m c : Nat) (E : List En) (top : Option Addr) (bl : List Nat) (pm : Nat) (v : Value) (LP : PrL) : Prop where
  map : MpW w wr p m E c top bl
  r : RmS w wr pm v LP
  np : pm ∉ p :: m :: bl
  nv : ∀ g, v.ownBlock = some g → g ∉ p :: m :: bl
section
variable {w wr w' : World} {p m c c' : Nat} {E E' : List En} {top top' : Option Addr} {bl bl' : List Nat} {pm : Nat} {v v' : Value} {LP LP' : PrL}
theorem SmS.lo (h : SmS w wr p m c E top bl pm v LP) : ∀ g ∈ p :: m :: bl, w.heap.size ≤ g := fun g hg => by
  rcases List.mem_cons.1 hg with rfl | hg
  · exact h.map.pg
  · rcases List.mem_cons.1 hg with rfl | hg
    · exact h.map.mg
    · exact h.map.bg g hg
theorem SmS.on (h : SmS w wr p m c E top bl pm v LP) (hb : Below wr.heap.size wr w') : SmS w w' p m c E top bl pm v LP := ⟨h.map.on hb, h.r.on hb, h.np, h.nv⟩
/-- Behind the program's Put. -/
theorem SmS.putX {K V : List Int} {e : Ending} (h : SmS w wr p m c E top bl pm v LP) (hq : PutQ wr p m E bl K V e w') :
    e = .returned (.int .i64 0) ∧ ∃ E' c' top' bl', SmS w w' p m c' E' top' bl' pm v LP ∧ (∀ k, vOf E' k = if k = K then V else vOf E k) ∧ E'.length ≤ E.length + 1 := by
  obtain ⟨he, hc, E', c', top', bl', hm, hin, hv, h1, -⟩ := h.map.put2 hq
  have sub : ∀ g, g < wr.heap.size → g ∉ p :: m :: bl → g ∉ p :: m :: bl' := fun g hg hn hm => by
    rcases List.mem_cons.1 hm with rfl | hm
    · exact hn (by simp)
    · rcases List.mem_cons.1 hm with rfl | hm
      · exact hn (by simp)
      · rcases hin g hm with h2 | h2
        · exact hn (by simp [h2])
        · omega
  exact ⟨he, E', c', top', bl', ⟨hm, h.r.chg hc h.np h.nv h.lo, sub _ h.r.lt h.np, fun g hg => sub g (own_lt h.r.own hg) (h.nv g hg)⟩, hv, h1⟩
/-- Behind the document's Put. -/
theorem SmS.putR {e : Ending} (h : SmS w wr p m c E top bl pm v LP) (hq : Put5Q w wr pm v LP' e w') :
    e = .returned (.int .i64 0) ∧ ∃ v', SmS w w' p m c E top bl pm v' LP' := by
  obtain ⟨he, v', hr, hc, hv⟩ := hq
  have hn : ∀ g ∈ p :: m :: bl, g ∉ pm :: v.ownBlock.toList := fun g hg hm => by
    rcases List.mem_cons.1 hm with rfl | hm
    · exact h.np hg
    · exact h.nv g (by simpa using hm) hg
  have hlt : ∀ g ∈ p :: m :: bl, g < wr.heap.size := fun g hg => by
    rcases List.mem_cons.1 hg with rfl | hg
    · exact h.map.map.s.lp
    · rcases List.mem_cons.1 hg with rfl | hg
      · exact h.map.map.s.lm
      · exact h.map.map.t.lt g hg
  refine ⟨he, v', ⟨h.map.map.chg hc (hn p (by simp)) (hn m (by simp)) (fun g hg => hn g (by simp [hg])), hr.below, h.map.pg, h.map.mg, h.map.bg⟩, hr, h.np, fun g hg hm => ?_⟩
  rcases hv with e | e
  · rw [e] at hg; exact h.nv g hg hm
  · have := e g hg; have := hlt g hm; omega
/-- What changes only the tree of the program's map. -/
theorem SmS.tree (h : SmS w wr p m c E top bl pm v LP) (hc : Chg wr w' bl) (hm : MapS w' p m E c top bl) : SmS w w' p m c E top bl pm v LP :=
  ⟨h.map.chg hc hm, h.r.chg hc (fun x => h.np (by simp [x])) (fun g hg x => h.nv g hg (by simp [x])) h.map.bg, h.np, h.nv⟩
end
end Go.Proofs.YtjlodnecdngdfaaDoor
namespace Go.Proofs.YtjlodnecdngdfaaDoor
open Go.RowKit
set_option maxRecDepth 100000

theorem ndR_hash : ∀ (k : Nat) (L : PrL), (ndR k L).length = 32 ∧ Bytes (ndR k L)
  | k, [] => by rw [ndR_nil]; exact ⟨zero32_len, zero32_bytes⟩
  | k, [x] => by rw [ndR_one]; exact ⟨upH_len _ _ (lfH_len _ _) _, upH_bytes _ _ (lfH_bytes _ _) _⟩
  | 0, x :: y :: M => ⟨zero32_len, zero32_bytes⟩
  | k + 1, x :: y :: M => ⟨abH_len _ _, abH_bytes _ _⟩
def NdQ (w : World) (L : PrL) (d : Nat) (e : Ending) (w' : World) : Prop := e = .returned (.agg (hc (ndR (256 - d) L)).toArray) ∧ Below w.heap.size w w'
def NdT (d : Nat) : Prop := ∀ (w : World) (q : Option Addr) (c : Nat) (L : PrL), RdQ w q L → PrsOk L → SrtR L → (∀ x ∈ L, ∀ y ∈ L, AgreeB d x.1 y.1) → L.length ≤ 20 → L.length ≤ c → Calls Tryd.prog 41 #[.slice q L.length c, .int .i64 (d : Int)] w (NdQ w L d)
set_option maxHeartbeats 4000000 in
theorem node_nil {w : World} {q : Option Addr} {c d : Nat} : Calls Tryd.prog 41 #[.slice q 0 c, .int .i64 (d : Int)] w (NdQ w [] d) := by
  have H0 := HashAt.new w zero32
  have th := H0.there zero32_len
  have z32 := zero32_len
  have hput := (H0.put zero32_len zero32_len).row zero32_len
  have B := Lib.hid (below_setCells' w.heap.size (Nat.le_refl _) (hc zero32) 0 ((Below.refl _ _).alloc (Nat.le_refl _) (.cells (hc zero32).toArray 24)))
  clear H0
  go_enter Tryd.func41, Tryd.ntmps41
  go_wp2_with fail
  refine bodyPost_ret (v := .agg (hc zero32).toArray) (by simp [results, Tryd.results41, go_sem, hput, z32]) rfl ?_
  exact ⟨by rw [ndR_nil], B.out⟩
set_option maxHeartbeats 64000000 in
theorem node_one {w : World} {q : Option Addr} {c d : Nat} {x : List Int × List Int} (hq : RdQ w q [x]) (ok : PrOk x) (hd : d ≤ 256) :
    Calls Tryd.prog 41 #[.slice q 1 c, .int .i64 (d : Int)] w (NdQ w [x] d) := by
  obtain ⟨b, off, rfl, rd⟩ := hq.resolve_left (by simp)
  have b1 : Below w.heap.size w (w.alloc (.cells (hc zero32).toArray 24)) := (Below.refl _ _).alloc (Nat.le_refl _) _
  have B0 := Lib.hid b1.drew
  have RZ := Lib.hid ((HashAt.new w zero32).on (Below.refl _ _).drew)
  have OKX := Lib.hid ok
  have z32 := zero32_len
  have lK := ok.k.len
  have lV := ok.l
  have hlK := hc_len x.1
  have hlV := hc_len x.2
  have RK : Hid (∀ W, Below (w.alloc (.cells (hc zero32).toArray 24)).drew.heap.size (w.alloc (.cells (hc zero32).toArray 24)).drew W → rowOf W b off 32 = hc x.1 ∧ rowOf W b (off + 32) 32 = hc x.2) := fun W hW => by
    have hb : Below w.heap.size w W := b1.drew.trans (hW.mono b1.drew.size)
    have := rowOf_half ok.k.len ok.l ((rd.on (fun y hy => by rw [List.mem_singleton.1 hy]; exact ok) hb) 0 (by simp))
    simpa using this
  obtain ⟨h, hh⟩ : ∃ h, lfH x.1 x.2 = h := ⟨_, rfl⟩
  have HH := Lib.hid hh
  have LH : Hid (h.length = 32) := by show _ = _; rw [← hh]; exact lfH_len _ _
  have BH : Hid (Bytes h) := by show Bytes h; rw [← hh]; exact lfH_bytes _ _
  have hlH := hc_len h
  have lH := LH.out
  have RK2 : Hid (∀ W, Below w.heap.size w W → rowOf W b off 32 = hc x.1 ∧ rowOf W b (off + 32) 32 = hc x.2) := fun W hb => by
    have := rowOf_half ok.k.len ok.l ((rd.on (fun y hy => by rw [List.mem_singleton.1 hy]; exact ok) hb) 0 (by simp))
    simpa using this
  have RZ0 : Hid (w.heap.size < (w.alloc (.cells (hc zero32).toArray 24)).drew.heap.size) := by show _ < _; simp
  clear hq ok rd hh b1
  go_enter Tryd.func41, Tryd.ntmps41
  go_upto_region 4 with fail
  refine wp_region_held_drew (S := fun W => LfS (w.alloc (.cells (hc zero32).toArray 24)).drew W none) (by kernel_rfl) (LfS.start _) (fun h0 => ?_)
  generalize (w.alloc (.cells (hc zero32).toArray 24)).drew = w1 at *
  have LS0 := Lib.hid (LfS.start w1)
  refine wpAnyH_take (i := 0) (v := ?_) (by rw [List.getElem?_toArray]; rfl) (by kernel_rfl) (by kernel_rfl) (by kernel_rfl) (by exact fun _ _ _ h => h) (Or.inl ⟨by rfl, ?_⟩) h0 ?_
  rotate_left
  · intro W hW
    go_simp
    all_goals with_reducible rfl
  try simp only [Act.put, List.setIfInBounds_toArray, List.set_cons_zero, List.set_cons_succ]
  refine wpAnyH_take (i := 1) (v := ?_) (by rw [List.getElem?_toArray]; rfl) (by kernel_rfl) (by kernel_rfl) (by kernel_rfl) (by exact fun _ _ _ h => h) (Or.inl ⟨by rfl, ?_⟩) h0 ?_
  rotate_left
  · intro W hW
    go_simp
    all_goals with_reducible rfl
  try simp only [Act.put, List.setIfInBounds_toArray, List.set_cons_zero, List.set_cons_succ]
  refine wpAnyH_take (i := 2) (v := ?_) (by rw [List.getElem?_toArray]; rfl) (by kernel_rfl) (by kernel_rfl) (by kernel_rfl) (by exact fun _ _ _ h => h) (Or.inl ⟨by rfl, ?_⟩) h0 ?_
  rotate_left
  · intro W hW
    go_simp
    all_goals with_reducible rfl
  try simp only [Act.put, List.setIfInBounds_toArray, List.set_cons_zero, List.set_cons_succ]
  refine wpAnyH_take (i := 3) (v := ?_) (by rw [List.getElem?_toArray]; rfl) (by kernel_rfl) (by kernel_rfl) (by kernel_rfl) (by exact fun _ _ _ h => h) (Or.inl ⟨by rfl, ?_⟩) h0 ?_
  rotate_left
  · intro W hW
    have cc := (RK.out W hW.below).1
    go_simp
    all_goals with_reducible rfl
  try simp only [Act.put, List.setIfInBounds_toArray, List.set_cons_zero, List.set_cons_succ]
  refine wpAnyH_take (i := 4) (v := ?_) (by rw [List.getElem?_toArray]; rfl) (by kernel_rfl) (by kernel_rfl) (by kernel_rfl) (by exact fun _ _ _ h => h) (Or.inl ⟨by rfl, ?_⟩) h0 ?_
  rotate_left
  · intro W hW
    go_simp
    all_goals with_reducible rfl
  try simp only [Act.put, List.setIfInBounds_toArray, List.set_cons_zero, List.set_cons_succ]
  refine wpAnyH_take (i := 5) (v := ?_) (by rw [List.getElem?_toArray]; rfl) (by kernel_rfl) (by kernel_rfl) (by kernel_rfl) (by exact fun _ _ _ h => h) (Or.inl ⟨by rfl, ?_⟩) h0 ?_
  rotate_left
  · intro W hW
    go_simp
    all_goals with_reducible rfl
  try simp only [Act.put, List.setIfInBounds_toArray, List.set_cons_zero, List.set_cons_succ]
  refine wpAnyH_take (i := 6) (v := ?_) (by rw [List.getElem?_toArray]; rfl) (by kernel_rfl) (by kernel_rfl) (by kernel_rfl) (by exact fun _ _ _ h => h) (Or.inl ⟨by rfl, ?_⟩) h0 ?_
  rotate_left
  · intro W hW
    go_simp
    all_goals with_reducible rfl
  try simp only [Act.put, List.setIfInBounds_toArray, List.set_cons_zero, List.set_cons_succ]
  refine wpAnyH_take (i := 7) (v := ?_) (by rw [List.getElem?_toArray]; rfl) (by kernel_rfl) (by kernel_rfl) (by kernel_rfl) (by exact fun _ _ _ h => h) (Or.inl ⟨by rfl, ?_⟩) h0 ?_
  rotate_left
  · intro W hW
    have cc := (RK.out W hW.below).2
    go_simp
    all_goals with_reducible rfl
  try simp only [Act.put, List.setIfInBounds_toArray, List.set_cons_zero, List.set_cons_succ]
  refine wpAnyH_ready (rs := [8, 9]) (by kernel_rfl) (by simp) ?_
  refine AllReadyH.cons (by rw [List.getElem?_toArray]; rfl) (fun KX hKK => ?_) (AllReadyH.cons (by rw [List.getElem?_toArray]; rfl) (fun KX hKK => ?_) (AllReadyH.nil))
  · first | rw [if_pos (by rfl)] | skip
    have LF := Lib.hid (refLeaf_any (w := w1) OKX.out.k.len OKX.out.l OKX.out.k.by_ OKX.out.b)
    rw [HH.out] at LF
    go_wp2_with fail
    refine LF.out.mono ?_
    rintro e W1 ⟨rfl, b2⟩
    have LS1 := Lib.hid (LS0.out.on b2)
    clear b2 LF
    go_wp2_with fail
    refine hKK.out _ _ (LfS.of LS1.out.below) (fun h0 => ?_)
    clear hKK KX
    try simp only [Act.put, List.setIfInBounds_toArray, List.set_cons_zero, List.set_cons_succ]
    refine wpAnyH_ready (rs := [9]) (by kernel_rfl) (by simp) ?_
    refine AllReadyH.cons (by rw [List.getElem?_toArray]; rfl) (fun KX hKK => ?_) AllReadyH.nil
    first | rw [if_pos (by rfl)] | skip
    have LS2 := Lib.hid LS1.out.lay
    go_wp2_with fail
    refine hKK.out _ _ (LfS.of LS2.out.below) (fun h0 => ?_)
    clear hKK KX
    try simp only [Act.put, List.setIfInBounds_toArray, List.set_cons_zero, List.set_cons_succ]
    obtain ⟨hb, hhb⟩ : ∃ hb, W1.heap.size = hb := ⟨_, rfl⟩
    rw [hhb] at LS2 ⊢
    clear hhb
    generalize W1.alloc (.cells (hc zero32).toArray 24) = W2 at *
    refine wpAnyH_ready (rs := [10]) (by kernel_rfl) (by simp) ?_
    refine AllReadyH.cons (by rw [List.getElem?_toArray]; rfl) (fun KX hKK => ?_) AllReadyH.nil
    first | rw [if_pos (by rfl)] | skip
    obtain ⟨zb, lob, ltb⟩ := LS2.out.blk hb rfl
    have th := zb.there zero32_len
    have H9 := Lib.hid (zb.put zero32_len LH.out)
    have c9 : Chg W2 (W2.setCells hb 0 (hc h)) [hb] := (Chg.refl W2 [hb]).setCells (b := hb) (.inl (by simp)) (hc h) 0
    have h1 : Below w1.heap.size w1 (W2.setCells hb 0 (hc h)) := LS2.out.below.trans (c9.toBelow LS2.out.below.size (fun g hg => by rw [List.mem_singleton.1 hg]; exact lob))
    have HLO : Hid (w1.heap.size ≤ hb ∧ hb < (W2.setCells hb 0 (hc h)).heap.size) := ⟨lob, by have := c9.size; omega⟩
    go_wp2_with fail
    refine hKK.out _ _ (LfS.of h1) (fun h0 => ?_)
    clear hKK KX
    try simp only [Act.put, List.setIfInBounds_toArray, List.set_cons_zero, List.set_cons_succ]
    clear th c9 zb lob ltb
    have B9 := Lib.hid h1
    clear h1
    generalize W2.setCells hb 0 (hc h) = w9 at *
    refine wpAnyH_done (by kernel_rfl) ?_ _
    clear h0
    have R12 := Lib.hid (RZ.out.on B9.out)
    have HBW : Hid (w.heap.size ≤ hb) := by have := RZ0.out; have := HLO.out.1; show _ ≤ _; omega
    have HBW2 : Hid (w.heap.size < hb) := by have := RZ0.out; have := HLO.out.1; show _ < _; omega
    have BW9 := Lib.hid (B0.out.trans (B9.out.mono B0.out.size))
    go_wp2_with fail
    go_loopw [6] (fun iv wr => ∃ (k : Nat) (g : List Int), iv = .int .i64 (255 - (k : Int)) ∧ k ≤ 256 - d ∧ Hid (upH x.1 256 h k = g ∧ g.length = 32 ∧ Bytes g) ∧ Hid (HashAt wr hb g) ∧ Hid (HashAt wr w.heap.size zero32) ∧ Hid (Below w.heap.size w wr)) (fun iv _ => (intOf iv + 1 - (d : Int)).toNat)
    case atStart => exact ⟨0, h, rfl, by omega, ⟨rfl, LH.out, BH.out⟩, H9, R12, BW9⟩
    case round =>
      clear H9 R12 LH BH BW9 HLO B9 B0 RZ RZ0
      obtain ⟨k, g, rfl, hk, HN, HB1, RZ1, BW1⟩ := hrel
      have lG := HN.out.2.1
      have hlG := hc_len g
      by_cases hlt : k < 256 - d
      · obtain ⟨i, hie⟩ : ∃ i : Nat, 255 - (k : Int) = i := ⟨255 - k, by omega⟩
        have hi2 : i < 256 := by omega
        have hdi : (d : Int) ≤ (i : Int) := by omega
        rw [hie]
        have RKb := (RK2.out wr BW1.out).1
        have RB := Lib.hid (rbit_any (w := wr) (i := i) OKX.out.k.len OKX.out.k.by_ hi2)
        have hS0 : upH x.1 256 h (k + 1) = stp x.1 i g := by
          rw [← HN.out.1]
          show stp x.1 (256 - 1 - k) _ = _
          rw [show 256 - 1 - k = i by omega]
        have hi0 := Lib.hid hie
        clear hie
        rcases bit01 x.1 i with hbt | hbt
        · rw [hbt] at RB
          have hS : upH x.1 256 h (k + 1) = abH g zero32 := by rw [hS0]; unfold stp; rw [if_pos hbt]
          clear hbt hS0
          go_wp2_with fail
          refine RB.out.mono ?_
          rintro e w15 ⟨rfl, b15⟩
          have HB2 := Lib.hid (HB1.out.on b15)
          have RZ2 := Lib.hid (RZ1.out.on b15)
          have BW2 := Lib.hid (BW1.out.trans (b15.mono BW1.out.size))
          clear b15 RB HB1 RZ1 BW1
          have AB := Lib.hid (refAbove_any (w := w15) (A := g) (B := zero32) lG z32 HN.out.2.2 zero32_bytes)
          have lX := abH_len g zero32
          have bX := Lib.hid (abH_bytes g zero32)
          obtain ⟨X, hX⟩ : ∃ X, abH g zero32 = X := ⟨_, rfl⟩
          rw [hX] at AB lX bX hS
          have HS := Lib.hid hS
          clear hX hS
          have rH := HB2.out.row lG
          go_wp2_with fail
          clear rH
          refine AB.out.mono ?_
          rintro e w22 ⟨rfl, b22⟩
          have HH5 := HB2.out.on b22
          have th := HH5.there lG
          have hlX := hc_len X
          have H23 := Lib.hid (HH5.put lG lX)
          have c23 : Chg w22 (w22.setCells hb 0 (hc X)) [hb] := (Chg.refl w22 [hb]).setCells (b := hb) (.inl (by simp)) (hc X) 0
          have RZ23 := Lib.hid ((RZ2.out.on b22).chg' c23 (by have := HBW2.out; simp; omega))
          have BW23 := Lib.hid (below_setCells' hb HBW.out (hc X) 0 (BW2.out.trans (b22.mono BW2.out.size)))
          clear b22 c23 AB HH5
          go_wp2_with fail
          go_roundw
          case rel => exact ⟨k + 1, X, by have := hi0.out; rw [← this]; go_num, by omega, ⟨HS.out, lX, bX.out⟩, H23, RZ23, BW23⟩
          case measure => simp [intOf]; omega
        · rw [hbt] at RB
          have hS : upH x.1 256 h (k + 1) = abH zero32 g := by rw [hS0]; unfold stp; rw [if_neg (by omega)]
          clear hbt hS0
          go_wp2_with fail
          refine RB.out.mono ?_
          rintro e w15 ⟨rfl, b15⟩
          have HB2 := Lib.hid (HB1.out.on b15)
          have RZ2 := Lib.hid (RZ1.out.on b15)
          have BW2 := Lib.hid (BW1.out.trans (b15.mono BW1.out.size))
          clear b15 RB HB1 RZ1 BW1
          have AB := Lib.hid (refAbove_any (w := w15) (A := zero32) (B := g) z32 lG zero32_bytes HN.out.2.2)
          have lX := abH_len zero32 g
          have bX := Lib.hid (abH_bytes zero32 g)
          obtain ⟨X, hX⟩ : ∃ X, abH zero32 g = X := ⟨_, rfl⟩
          rw [hX] at AB lX bX hS
          have HS := Lib.hid hS
          clear hX hS
          have rH := HB2.out.row lG
          go_wp2_with fail
          clear rH
          refine AB.out.mono ?_
          rintro e w22 ⟨rfl, b22⟩
          have HH5 := HB2.out.on b22
          have th := HH5.there lG
          have hlX := hc_len X
          have H23 := Lib.hid (HH5.put lG lX)
          have c23 : Chg w22 (w22.setCells hb 0 (hc X)) [hb] := (Chg.refl w22 [hb]).setCells (b := hb) (.inl (by simp)) (hc X) 0
          have RZ23 := Lib.hid ((RZ2.out.on b22).chg' c23 (by have := HBW2.out; simp; omega))
          have BW23 := Lib.hid (below_setCells' hb HBW.out (hc X) 0 (BW2.out.trans (b22.mono BW2.out.size)))
          clear b22 c23 AB HH5
          go_wp2_with fail
          go_roundw
          case rel => exact ⟨k + 1, X, by have := hi0.out; rw [← this]; go_num, by omega, ⟨HS.out, lX, bX.out⟩, H23, RZ23, BW23⟩
          case measure => simp [intOf]; omega
      · have hdi : ¬ (d : Int) ≤ 255 - (k : Int) := by omega
        have hk2 : k = 256 - d := by omega
        have rH := HB1.out.row lG
        have th := RZ1.out.there zero32_len
        have hput := (RZ1.out.put zero32_len lG).row lG
        have BW9 := Lib.hid (below_setCells' w.heap.size (Nat.le_refl _) (hc g) 0 BW1.out)
        go_wp2_with fail
        refine bodyPost_ret (v := .agg (hc g).toArray) (by simp [results, Tryd.results41, go_sem, hput, lG]) rfl ?_
        exact ⟨by rw [ndR_one, ← hk2, ← HN.out.1, HH.out], BW9.out⟩
  · first | rw [if_pos (by rfl)] | skip
    have LS1 := Lib.hid LS0.out.lay
    go_wp2_with fail
    refine hKK.out _ _ (LfS.of LS1.out.below) (fun h0 => ?_)
    clear hKK KX
    try simp only [Act.put, List.setIfInBounds_toArray, List.set_cons_zero, List.set_cons_succ]
    obtain ⟨hb, hhb⟩ : ∃ hb, w1.heap.size = hb := ⟨_, rfl⟩
    rw [hhb] at LS1 ⊢
    clear hhb
    generalize w1.alloc (.cells (hc zero32).toArray 24) = W1 at *
    refine wpAnyH_ready (rs := [8]) (by kernel_rfl) (by simp) ?_
    refine AllReadyH.cons (by rw [List.getElem?_toArray]; rfl) (fun KX hKK => ?_) AllReadyH.nil
    first | rw [if_pos (by rfl)] | skip
    have LF := Lib.hid (refLeaf_any (w := W1) OKX.out.k.len OKX.out.l OKX.out.k.by_ OKX.out.b)
    rw [HH.out] at LF
    go_wp2_with fail
    refine LF.out.mono ?_
    rintro e W2 ⟨rfl, b2⟩
    have LS2 := Lib.hid (LS1.out.on b2)
    clear b2 LF
    go_wp2_with fail
    refine hKK.out _ _ (LfS.of LS2.out.below) (fun h0 => ?_)
    clear hKK KX
    try simp only [Act.put, List.setIfInBounds_toArray, List.set_cons_zero, List.set_cons_succ]
    refine wpAnyH_ready (rs := [10]) (by kernel_rfl) (by simp) ?_
    refine AllReadyH.cons (by rw [List.getElem?_toArray]; rfl) (fun KX hKK => ?_) AllReadyH.nil
    first | rw [if_pos (by rfl)] | skip
    obtain ⟨zb, lob, ltb⟩ := LS2.out.blk hb rfl
    have th := zb.there zero32_len
    have H9 := Lib.hid (zb.put zero32_len LH.out)
    have c9 : Chg W2 (W2.setCells hb 0 (hc h)) [hb] := (Chg.refl W2 [hb]).setCells (b := hb) (.inl (by simp)) (hc h) 0
    have h1 : Below w1.heap.size w1 (W2.setCells hb 0 (hc h)) := LS2.out.below.trans (c9.toBelow LS2.out.below.size (fun g hg => by rw [List.mem_singleton.1 hg]; exact lob))
    have HLO : Hid (w1.heap.size ≤ hb ∧ hb < (W2.setCells hb 0 (hc h)).heap.size) := ⟨lob, by have := c9.size; omega⟩
    go_wp2_with fail
    refine hKK.out _ _ (LfS.of h1) (fun h0 => ?_)
    clear hKK KX
    try simp only [Act.put, List.setIfInBounds_toArray, List.set_cons_zero, List.set_cons_succ]
    clear th c9 zb lob ltb
    have B9 := Lib.hid h1
    clear h1
    generalize W2.setCells hb 0 (hc h) = w9 at *
    refine wpAnyH_done (by kernel_rfl) ?_ _
    clear h0
    have R12 := Lib.hid (RZ.out.on B9.out)
    have HBW : Hid (w.heap.size ≤ hb) := by have := RZ0.out; have := HLO.out.1; show _ ≤ _; omega
    have HBW2 : Hid (w.heap.size < hb) := by have := RZ0.out; have := HLO.out.1; show _ < _; omega
    have BW9 := Lib.hid (B0.out.trans (B9.out.mono B0.out.size))
    go_wp2_with fail
    go_loopw [6] (fun iv wr => ∃ (k : Nat) (g : List Int), iv = .int .i64 (255 - (k : Int)) ∧ k ≤ 256 - d ∧ Hid (upH x.1 256 h k = g ∧ g.length = 32 ∧ Bytes g) ∧ Hid (HashAt wr hb g) ∧ Hid (HashAt wr w.heap.size zero32) ∧ Hid (Below w.heap.size w wr)) (fun iv _ => (intOf iv + 1 - (d : Int)).toNat)
    case atStart => exact ⟨0, h, rfl, by omega, ⟨rfl, LH.out, BH.out⟩, H9, R12, BW9⟩
    case round =>
      clear H9 R12 LH BH BW9 HLO B9 B0 RZ RZ0
      obtain ⟨k, g, rfl, hk, HN, HB1, RZ1, BW1⟩ := hrel
      have lG := HN.out.2.1
      have hlG := hc_len g
      by_cases hlt : k < 256 - d
      · obtain ⟨i, hie⟩ : ∃ i : Nat, 255 - (k : Int) = i := ⟨255 - k, by omega⟩
        have hi2 : i < 256 := by omega
        have hdi : (d : Int) ≤ (i : Int) := by omega
        rw [hie]
        have RKb := (RK2.out wr BW1.out).1
        have RB := Lib.hid (rbit_any (w := wr) (i := i) OKX.out.k.len OKX.out.k.by_ hi2)
        have hS0 : upH x.1 256 h (k + 1) = stp x.1 i g := by
          rw [← HN.out.1]
          show stp x.1 (256 - 1 - k) _ = _
          rw [show 256 - 1 - k = i by omega]
        have hi0 := Lib.hid hie
        clear hie
        rcases bit01 x.1 i with hbt | hbt
        · rw [hbt] at RB
          have hS : upH x.1 256 h (k + 1) = abH g zero32 := by rw [hS0]; unfold stp; rw [if_pos hbt]
          clear hbt hS0
          go_wp2_with fail
          refine RB.out.mono ?_
          rintro e w15 ⟨rfl, b15⟩
          have HB2 := Lib.hid (HB1.out.on b15)
          have RZ2 := Lib.hid (RZ1.out.on b15)
          have BW2 := Lib.hid (BW1.out.trans (b15.mono BW1.out.size))
          clear b15 RB HB1 RZ1 BW1
          have AB := Lib.hid (refAbove_any (w := w15) (A := g) (B := zero32) lG z32 HN.out.2.2 zero32_bytes)
          have lX := abH_len g zero32
          have bX := Lib.hid (abH_bytes g zero32)
          obtain ⟨X, hX⟩ : ∃ X, abH g zero32 = X := ⟨_, rfl⟩
          rw [hX] at AB lX bX hS
          have HS := Lib.hid hS
          clear hX hS
          have rH := HB2.out.row lG
          go_wp2_with fail
          clear rH
          refine AB.out.mono ?_
          rintro e w22 ⟨rfl, b22⟩
          have HH5 := HB2.out.on b22
          have th := HH5.there lG
          have hlX := hc_len X
          have H23 := Lib.hid (HH5.put lG lX)
          have c23 : Chg w22 (w22.setCells hb 0 (hc X)) [hb] := (Chg.refl w22 [hb]).setCells (b := hb) (.inl (by simp)) (hc X) 0
          have RZ23 := Lib.hid ((RZ2.out.on b22).chg' c23 (by have := HBW2.out; simp; omega))
          have BW23 := Lib.hid (below_setCells' hb HBW.out (hc X) 0 (BW2.out.trans (b22.mono BW2.out.size)))
          clear b22 c23 AB HH5
          go_wp2_with fail
          go_roundw
          case rel => exact ⟨k + 1, X, by have := hi0.out; rw [← this]; go_num, by omega, ⟨HS.out, lX, bX.out⟩, H23, RZ23, BW23⟩
          case measure => simp [intOf]; omega
        · rw [hbt] at RB
          have hS : upH x.1 256 h (k + 1) = abH zero32 g := by rw [hS0]; unfold stp; rw [if_neg (by omega)]
          clear hbt hS0
          go_wp2_with fail
          refine RB.out.mono ?_
          rintro e w15 ⟨rfl, b15⟩
          have HB2 := Lib.hid (HB1.out.on b15)
          have RZ2 := Lib.hid (RZ1.out.on b15)
          have BW2 := Lib.hid (BW1.out.trans (b15.mono BW1.out.size))
          clear b15 RB HB1 RZ1 BW1
          have AB := Lib.hid (refAbove_any (w := w15) (A := zero32) (B := g) z32 lG zero32_bytes HN.out.2.2)
          have lX := abH_len zero32 g
          have bX := Lib.hid (abH_bytes zero32 g)
          obtain ⟨X, hX⟩ : ∃ X, abH zero32 g = X := ⟨_, rfl⟩
          rw [hX] at AB lX bX hS
          have HS := Lib.hid hS
          clear hX hS
          have rH := HB2.out.row lG
          go_wp2_with fail
          clear rH
          refine AB.out.mono ?_
          rintro e w22 ⟨rfl, b22⟩
          have HH5 := HB2.out.on b22
          have th := HH5.there lG
          have hlX := hc_len X
          have H23 := Lib.hid (HH5.put lG lX)
          have c23 : Chg w22 (w22.setCells hb 0 (hc X)) [hb] := (Chg.refl w22 [hb]).setCells (b := hb) (.inl (by simp)) (hc X) 0
          have RZ23 := Lib.hid ((RZ2.out.on b22).chg' c23 (by have := HBW2.out; simp; omega))
          have BW23 := Lib.hid (below_setCells' hb HBW.out (hc X) 0 (BW2.out.trans (b22.mono BW2.out.size)))
          clear b22 c23 AB HH5
          go_wp2_with fail
          go_roundw
          case rel => exact ⟨k + 1, X, by have := hi0.out; rw [← this]; go_num, by omega, ⟨HS.out, lX, bX.out⟩, H23, RZ23, BW23⟩
          case measure => simp [intOf]; omega
      · have hdi : ¬ (d : Int) ≤ 255 - (k : Int) := by omega
        have hk2 : k = 256 - d := by omega
        have rH := HB1.out.row lG
        have th := RZ1.out.there zero32_len
        have hput := (RZ1.out.put zero32_len lG).row lG
        have BW9 := Lib.hid (below_setCells' w.heap.size (Nat.le_refl _) (hc g) 0 BW1.out)
        go_wp2_with fail
        refine bodyPost_ret (v := .agg (hc g).toArray) (by simp [results, Tryd.results41, go_sem, hput, lG]) rfl ?_
        exact ⟨by rw [ndR_one, ← hk2, ← HN.out.1, HH.out], BW9.out⟩

set_option maxHeartbeats 64000000 in
theorem node_two {w : World} {q : Option Addr} {c d : Nat} {L : PrL} (hd : d < 256) (ih : NdT (d + 1)) (hq : RdQ w q L) (ok : PrsOk L) (srt : SrtR L) (agr : ∀ x ∈ L, ∀ y ∈ L, AgreeB d x.1 y.1) (h20 : L.length ≤ 20) (hLc : L.length ≤ c) (h2L : 2 ≤ L.length) :
    Calls Tryd.prog 41 #[.slice q L.length c, .int .i64 (d : Int)] w (NdQ w L d) := by
  have b1 : Below w.heap.size w (w.alloc (.cells (hc zero32).toArray 24)) := (Below.refl _ _).alloc (Nat.le_refl _) _
  have RZ1 := Lib.hid (HashAt.new w zero32)
  have B1 := Lib.hid b1
  have IH := Lib.hid ih
  have HQ := Lib.hid hq
  have OK := Lib.hid ok
  have SR0 := Lib.hid srt
  have L2 := Lib.hid h2L
  have z32 := zero32_len
  have hsp := ptR_split srt ok agr hd
  have HNL := Lib.hid (ptR_le d L)
  have PT := Lib.hid (part_any (c := c) (hq.on ok b1) ok hd (by omega))
  obtain ⟨n, hn⟩ : ∃ n, ptR d L = n := ⟨_, rfl⟩
  have HN2 := Lib.hid hn
  rw [hn] at hsp HNL PT
  have hnL : n ≤ L.length := HNL.out
  have hnc : n ≤ c := by omega
  have AGA := Lib.hid (half_agr (d := d) agr (fun x hx => List.mem_of_mem_take hx) hsp.1)
  have AGB := Lib.hid (half_agr (d := d) agr (fun x hx => List.mem_of_mem_drop hx) hsp.2)
  have lenA : (L.take n).length = n := by rw [List.length_take, Nat.min_eq_left hnL]
  have lenB : (L.drop n).length = L.length - n := List.length_drop
  have e0 : ((L.length : Int) == 0) = false := beq_eq_false_iff_ne.2 (by omega)
  have e1 : ((L.length : Int) == 1) = false := beq_eq_false_iff_ne.2 (by omega)
  clear hq ok srt agr b1 ih hn hsp
  go_enter Tryd.func41, Tryd.ntmps41
  go_wp2_with fail
  clear e0 e1
  refine PT.out.mono ?_
  rintro e w2 ⟨rfl, b2⟩
  have RZ3 := Lib.hid ((RZ1.out.on b2).on (Below.refl _ _).drew)
  have B3 := Lib.hid (B1.out.trans (b2.mono B1.out.size)).drew
  have HQ3 := Lib.hid (HQ.out.on OK.out B3.out)
  clear b2 PT B1 RZ1 HQ
  go_wp2_with fail
  refine wp_region_held_drew (S := fun _ => True) (by kernel_rfl) (trivial) (fun h0 => ?_)
  generalize w2.drew = w3 at *
  refine wpAnyH_take (i := 0) (v := ?_) (by rw [List.getElem?_toArray]; rfl) (by kernel_rfl) (by kernel_rfl) (by kernel_rfl) (by exact fun _ _ _ h => h) (Or.inl ⟨by rfl, ?_⟩) h0 ?_
  rotate_left
  · intro W hW
    go_simp
    all_goals with_reducible rfl
  try simp only [Act.put, List.setIfInBounds_toArray, List.set_cons_zero, List.set_cons_succ]
  refine wpAnyH_take (i := 1) (v := ?_) (by rw [List.getElem?_toArray]; rfl) (by kernel_rfl) (by kernel_rfl) (by kernel_rfl) (by exact fun _ _ _ h => h) (Or.inl ⟨by rfl, ?_⟩) h0 ?_
  rotate_left
  · intro W hW
    go_simp
    all_goals with_reducible rfl
  try simp only [Act.put, List.setIfInBounds_toArray, List.set_cons_zero, List.set_cons_succ]
  refine wpAnyH_take (i := 2) (v := ?_) (by rw [List.getElem?_toArray]; rfl) (by kernel_rfl) (by kernel_rfl) (by kernel_rfl) (by exact fun _ _ _ h => h) (Or.inl ⟨by rfl, ?_⟩) h0 ?_
  rotate_left
  · intro W hW
    go_simp
    all_goals with_reducible rfl
  try simp only [Act.put, List.setIfInBounds_toArray, List.set_cons_zero, List.set_cons_succ]
  refine wpAnyH_take (i := 3) (v := ?_) (by rw [List.getElem?_toArray]; rfl) (by kernel_rfl) (by kernel_rfl) (by kernel_rfl) (by exact fun _ _ _ h => h) (Or.inl ⟨by rfl, ?_⟩) h0 ?_
  rotate_left
  · intro W hW
    go_simp
    all_goals with_reducible rfl
  try simp only [Act.put, List.setIfInBounds_toArray, List.set_cons_zero, List.set_cons_succ]
  refine wpAnyH_take (i := 4) (v := ?_) (by rw [List.getElem?_toArray]; rfl) (by kernel_rfl) (by kernel_rfl) (by kernel_rfl) (by exact fun _ _ _ h => h) (Or.inl ⟨by rfl, ?_⟩) h0 ?_
  rotate_left
  · intro W hW
    go_simp
    all_goals with_reducible rfl
  try simp only [Act.put, List.setIfInBounds_toArray, List.set_cons_zero, List.set_cons_succ]
  refine wpAnyH_take (i := 6) (v := ?_) (by rw [List.getElem?_toArray]; rfl) (by kernel_rfl) (by kernel_rfl) (by kernel_rfl) (by exact fun _ _ _ h => h) (Or.inl ⟨by rfl, ?_⟩) h0 ?_
  rotate_left
  · intro W hW
    go_simp
    all_goals with_reducible rfl
  try simp only [Act.put, List.setIfInBounds_toArray, List.set_cons_zero, List.set_cons_succ]
  refine wpAnyH_take (i := 7) (v := ?_) (by rw [List.getElem?_toArray]; rfl) (by kernel_rfl) (by kernel_rfl) (by kernel_rfl) (by exact fun _ _ _ h => h) (Or.inl ⟨by rfl, ?_⟩) h0 ?_
  rotate_left
  · intro W hW
    go_simp
    all_goals with_reducible rfl
  try simp only [Act.put, List.setIfInBounds_toArray, List.set_cons_zero, List.set_cons_succ]
  refine wpAnyH_take (i := 8) (v := ?_) (by rw [List.getElem?_toArray]; rfl) (by kernel_rfl) (by kernel_rfl) (by kernel_rfl) (by exact fun _ _ _ h => h) (Or.inl ⟨by rfl, ?_⟩) h0 ?_
  rotate_left
  · intro W hW
    go_simp
    all_goals with_reducible rfl
  try simp only [Act.put, List.setIfInBounds_toArray, List.set_cons_zero, List.set_cons_succ]
  refine wpAnyH_take (i := 9) (v := ?_) (by rw [List.getElem?_toArray]; rfl) (by kernel_rfl) (by kernel_rfl) (by kernel_rfl) (by exact fun _ _ _ h => h) (Or.inl ⟨by rfl, ?_⟩) h0 ?_
  rotate_left
  · intro W hW
    go_simp
    all_goals with_reducible rfl
  try simp only [Act.put, List.setIfInBounds_toArray, List.set_cons_zero, List.set_cons_succ]
  refine wpAnyH_take (i := 10) (v := ?_) (by rw [List.getElem?_toArray]; rfl) (by kernel_rfl) (by kernel_rfl) (by kernel_rfl) (by exact fun _ _ _ h => h) (Or.inl ⟨by rfl, ?_⟩) h0 ?_
  rotate_left
  · intro W hW
    go_simp
    all_goals with_reducible rfl
  try simp only [Act.put, List.setIfInBounds_toArray, List.set_cons_zero, List.set_cons_succ]
  refine wpAnyH_ready (rs := [5]) (by kernel_rfl) (by simp) ?_
  refine AllReadyH.cons (by rw [List.getElem?_toArray]; rfl) (fun KX hKK => ?_) AllReadyH.nil
  first | rw [if_pos (by rfl)] | skip
  have IC := Lib.hid (IH.out w3 q c (L.take n) (HQ3.out.take n) (fun x hx => OK.out x (List.mem_of_mem_take hx)) (SR0.out.sublist (List.take_sublist _ _)) AGA.out (by simp; omega) (by simp; omega))
  rw [lenA, show ((d + 1 : Nat) : Int) = (d : Int) + 1 by omega] at IC
  obtain ⟨h1, eh1⟩ : ∃ x, ndR (256 - (d + 1)) (L.take n) = x := ⟨_, rfl⟩
  have Eh1 := Lib.hid eh1
  have lh1 : h1.length = 32 := by rw [← eh1]; exact (ndR_hash _ _).1
  have bh1 : Hid (Bytes h1) := by show Bytes h1; rw [← eh1]; exact (ndR_hash _ _).2
  have hlh1 := hc_len h1
  unfold NdQ at IC
  rw [eh1] at IC
  clear eh1
  go_wp2_with fail
  refine IC.out.mono ?_
  rintro e w4 ⟨rfl, b_w4⟩
  have B4 := Lib.hid (B3.out.trans (b_w4.mono B3.out.size))
  have RZ4 := Lib.hid (RZ3.out.on b_w4)
  have HQ4 := Lib.hid (HQ3.out.on OK.out b_w4)
  clear HQ3 RZ3 B3
  clear IC b_w4
  go_wp2_with fail
  refine hKK.out _ _ (trivial) (fun h0 => ?_)
  clear hKK KX
  try simp only [Act.put, List.setIfInBounds_toArray, List.set_cons_zero, List.set_cons_succ]
  refine wpAnyH_ready (rs := [11]) (by kernel_rfl) (by simp) ?_
  refine AllReadyH.cons (by rw [List.getElem?_toArray]; rfl) (fun KX hKK => ?_) AllReadyH.nil
  first | rw [if_pos (by rfl)] | skip
  have IC := Lib.hid (IH.out w4 (cutQ q c n) (c - n) (L.drop n) (HQ4.out.drop HNL.out hLc) (fun x hx => OK.out x (List.mem_of_mem_drop hx)) (SR0.out.sublist (List.drop_sublist _ _)) AGB.out (by simp; omega) (by simp; omega))
  rw [lenB, show ((d + 1 : Nat) : Int) = (d : Int) + 1 by omega] at IC
  obtain ⟨h2, eh2⟩ : ∃ x, ndR (256 - (d + 1)) (L.drop n) = x := ⟨_, rfl⟩
  have Eh2 := Lib.hid eh2
  have lh2 : h2.length = 32 := by rw [← eh2]; exact (ndR_hash _ _).1
  have bh2 : Hid (Bytes h2) := by show Bytes h2; rw [← eh2]; exact (ndR_hash _ _).2
  have hlh2 := hc_len h2
  unfold NdQ at IC
  rw [eh2] at IC
  clear eh2
  go_wp2_with fail
  refine IC.out.mono ?_
  rintro e w5 ⟨rfl, b_w5⟩
  have B5 := Lib.hid (B4.out.trans (b_w5.mono B4.out.size))
  have RZ5 := Lib.hid (RZ4.out.on b_w5)
  clear HQ4 RZ4 B4
  clear IC b_w5
  go_wp2_with fail
  refine hKK.out _ _ (trivial) (fun h0 => ?_)
  clear hKK KX
  try simp only [Act.put, List.setIfInBounds_toArray, List.set_cons_zero, List.set_cons_succ]
  refine wpAnyH_ready (rs := [12]) (by kernel_rfl) (by simp) ?_
  refine AllReadyH.cons (by rw [List.getElem?_toArray]; rfl) (fun KX hKK => ?_) AllReadyH.nil
  first | rw [if_pos (by rfl)] | skip
  have lX := abH_len h1 h2
  have bX := Lib.hid (abH_bytes h1 h2)
  obtain ⟨X, hX⟩ : ∃ X, abH h1 h2 = X := ⟨_, rfl⟩
  have HX := Lib.hid hX
  have AB := Lib.hid (refAbove_any (w := w5) (A := h1) (B := h2) lh1 lh2 bh1.out bh2.out)
  rw [hX] at AB lX bX
  clear hX
  have hlX := hc_len X
  go_wp2_with fail
  refine AB.out.mono ?_
  rintro e w6 ⟨rfl, b6⟩
  have B6 := Lib.hid (B5.out.trans (b6.mono B5.out.size))
  have RZ6 := Lib.hid (RZ5.out.on b6)
  clear b6 AB B5 RZ5
  go_wp2_with fail
  refine hKK.out _ _ (trivial) (fun h0 => ?_)
  clear hKK KX
  try simp only [Act.put, List.setIfInBounds_toArray, List.set_cons_zero, List.set_cons_succ]
  refine wpAnyH_ready (rs := [13]) (by kernel_rfl) (by simp) ?_
  refine AllReadyH.cons (by rw [List.getElem?_toArray]; rfl) (fun KX hKK => ?_) AllReadyH.nil
  first | rw [if_pos (by rfl)] | skip
  have th := RZ6.out.there zero32_len
  have hput := Lib.hid ((RZ6.out.put zero32_len lX).row lX)
  have B9 := Lib.hid (below_setCells' w.heap.size (Nat.le_refl _) (hc X) 0 B6.out)
  go_wp2_with fail
  refine hKK.out _ _ (trivial) (fun h0 => ?_)
  clear hKK KX
  try simp only [Act.put, List.setIfInBounds_toArray, List.set_cons_zero, List.set_cons_succ]
  refine wpAnyH_done (by kernel_rfl) ?_ _
  clear h0
  have hput2 := hput.out
  go_wp2_with fail
  refine bodyPost_ret (v := .agg (hc X).toArray) (by simp [results, Tryd.results41, go_sem, hput2, lX]) rfl ?_
  refine ⟨?_, B9.out⟩
  rw [show 256 - d = (256 - (d + 1)) + 1 by omega, ndR_two L2.out, show 255 - (256 - (d + 1)) = d by omega, HN2.out, Eh1.out, Eh2.out, HX.out]

theorem node_any : ∀ (k d : Nat), d + k = 256 → NdT d := by
  intro k
  induction k with
  | zero =>
    intro d hd w q c L hq ok srt agr h20 hLc
    match L, hq, ok, srt, agr, h20, hLc with
    | [], _, _, _, _, _, _ => exact node_nil
    | [x], hq, ok, _, _, _, _ => exact node_one hq (ok x (by simp)) (by omega)
    | x :: y :: L, _, ok, srt, agr, _, _ =>
      have := agr_two srt ok agr (by simp)
      omega
  | succ k ih =>
    intro d hd w q c L hq ok srt agr h20 hLc
    have IH := ih (d + 1) (by omega)
    match L, hq, ok, srt, agr, h20, hLc with
    | [], _, _, _, _, _, _ => exact node_nil
    | [x], hq, ok, _, _, _, _ => exact node_one hq (ok x (by simp)) (by omega)
    | x :: y :: L, hq, ok, srt, agr, h20, hLc => exact node_two (by omega) IH hq ok srt agr h20 hLc (by simp)
set_option maxHeartbeats 4000000 in
theorem Root5_any {w0 w : World} {pm : Nat} {v : Value} {L : PrL} (hm : RmS w0 w pm v L) (h20 : L.length ≤ 20) :
    Calls Tryd.prog 20 #[.pointer (some ⟨pm, 0, none⟩)] w fun e w' => e = .returned (.agg (hc (rootR L)).toArray) ∧ Below w.heap.size w w' := by
  obtain ⟨q, c, rfl⟩ := hm.slice
  have b1 : Below w.heap.size w (w.alloc (.cells (hc zero32).toArray 24)) := (Below.refl _ _).alloc (Nat.le_refl _) _
  have RM := hm.on b1
  have RZ := Lib.hid (HashAt.new w zero32)
  have z32 := zero32_len
  have IC := Lib.hid (node_any 256 0 rfl _ q c L RM.rdq hm.ok hm.srt (agr_zero L) h20 hm.cap.2)
  unfold NdQ at IC
  obtain ⟨X, hX⟩ : ∃ X, ndR (256 - 0) L = X := ⟨_, rfl⟩
  have lX : X.length = 32 := by rw [← hX]; exact (ndR_hash _ _).1
  have hlX := hc_len X
  have HX := Lib.hid hX
  rw [hX] at IC
  have cc := RM.cell
  have B1 := Lib.hid b1
  clear hX RM b1 hm
  go_enter Tryd.func20, Tryd.ntmps20
  go_wp2_with fail
  refine IC.out.mono ?_
  rintro e w2 ⟨rfl, b2⟩
  have RZ2 := RZ.out.on b2
  have th := RZ2.there z32
  have hput := (RZ2.put z32 lX).row lX
  have B9 := Lib.hid (below_setCells' w.heap.size (Nat.le_refl _) (hc X) 0 (B1.out.trans (b2.mono B1.out.size)))
  clear cc RZ2 IC b2
  go_wp2_with fail
  refine bodyPost_ret (v := .agg (hc X).toArray) (by simp [results, Tryd.results20, go_sem, hput, lX]) rfl ?_
  exact ⟨by rw [← HX.out]; rfl, B9.out⟩
end Go.Proofs.YtjlodnecdngdfaaDoor
namespace Go.Proofs.YtjlodnecdngdfaaDoor
open Go.RowKit
set_option maxRecDepth 100000

def wayR (L : PrL) (K : List Int) (d : Nat) : PrL := L.filter fun x => decide (d ≤ dif x.1 K)
def sidR (L : PrL) (K : List Int) (d : Nat) : PrL := L.filter fun x => dif x.1 K == d
theorem wayR_zero (L : PrL) (K : List Int) : wayR L K 0 = L := filter_all (fun _ _ => decide_eq_true (Nat.zero_le _))
section
variable {L : PrL} {K : List Int} {d : Nat}
theorem wayR_mem {x : List Int × List Int} (h : x ∈ wayR L K d) : x ∈ L ∧ d ≤ dif x.1 K := by
  obtain ⟨h1, h2⟩ := List.mem_filter.1 h
  exact ⟨h1, of_decide_eq_true h2⟩
theorem wayR_ok (ok : PrsOk L) : PrsOk (wayR L K d) := fun x hx => ok x (wayR_mem hx).1
theorem wayR_srt (hs : SrtR L) : SrtR (wayR L K d) := hs.sublist List.filter_sublist
theorem wayR_agr : ∀ x ∈ wayR L K d, ∀ y ∈ wayR L K d, AgreeB d x.1 y.1 := fun _ hx _ hy => (dif_agree_of (wayR_mem hx).2).trans (dif_agree_of (wayR_mem hy).2).symm
theorem sidR_mem {x : List Int × List Int} (h : x ∈ sidR L K d) : x ∈ L ∧ dif x.1 K = d := by
  obtain ⟨h1, h2⟩ := List.mem_filter.1 h
  exact ⟨h1, by simpa using h2⟩
theorem sidR_ok (ok : PrsOk L) : PrsOk (sidR L K d) := fun x hx => ok x (sidR_mem hx).1
theorem sidR_srt (hs : SrtR L) : SrtR (sidR L K d) := hs.sublist List.filter_sublist
/-- Beside the way at a level all have the other bit there. -/
theorem sidR_agr (hd : d < 256) : ∀ x ∈ sidR L K d, ∀ y ∈ sidR L K d, AgreeB (d + 1) x.1 y.1 := fun x hx y hy i hi => by
  have h1 := (sidR_mem hx).2
  have h2 := (sidR_mem hy).2
  by_cases e : i = d
  · have n1 := dif_ne (a := x.1) (b := K) (by omega)
    have n2 := dif_ne (a := y.1) (b := K) (by omega)
    rw [h1] at n1
    rw [h2] at n2
    have := bit01 x.1 d
    have := bit01 y.1 d
    have := bit01 K d
    rw [e]; omega
  · rw [dif_agree x.1 K i (by omega), dif_agree y.1 K i (by omega)]
theorem way_split (hs : SrtR L) (ok : PrsOk L) (hd : d < 256) : (bitI K d = 0 → (wayR L K d).take (ptR d (wayR L K d)) = wayR L K (d + 1) ∧ (wayR L K d).drop (ptR d (wayR L K d)) = sidR L K d) ∧ (bitI K d = 1 → (wayR L K d).drop (ptR d (wayR L K d)) = wayR L K (d + 1) ∧ (wayR L K d).take (ptR d (wayR L K d)) = sidR L K d) := by
  obtain ⟨h0, h1⟩ := ptR_split (wayR_srt (K := K) (d := d) hs) (wayR_ok ok) wayR_agr hd
  obtain ⟨n, hn⟩ : ∃ n, ptR d (wayR L K d) = n := ⟨_, rfl⟩
  rw [hn] at h0 h1 ⊢
  have eW : wayR L K (d + 1) = (wayR L K d).filter fun x => decide (bitI x.1 d = bitI K d) := by
    unfold wayR
    rw [List.filter_filter]
    refine List.filter_congr fun x _ => ?_
    have := dif_step (x := x.1) (K := K) hd
    by_cases a : d + 1 ≤ dif x.1 K
    · obtain ⟨b, c⟩ := this.1 a
      rw [decide_eq_true a, decide_eq_true b, decide_eq_true c]; rfl
    · rw [decide_eq_false a]
      by_cases b : d ≤ dif x.1 K
      · rw [decide_eq_true b, decide_eq_false (fun c => a (this.2 ⟨b, c⟩))]; rfl
      · rw [decide_eq_false b]; simp
  have eS : sidR L K d = (wayR L K d).filter fun x => decide (¬ bitI x.1 d = bitI K d) := by
    unfold sidR wayR
    rw [List.filter_filter]
    refine List.filter_congr fun x _ => ?_
    have := dif_at (x := x.1) (K := K) hd
    by_cases a : dif x.1 K = d
    · obtain ⟨b, c⟩ := this.1 a
      rw [decide_eq_true b, decide_eq_true c, a]; simp
    · have e : (dif x.1 K == d) = false := by simpa using a
      rw [e]
      by_cases b : d ≤ dif x.1 K
      · rw [decide_eq_true b, decide_eq_false (fun c => a (this.2 ⟨b, c⟩))]; rfl
      · rw [decide_eq_false b]; simp
  have split : wayR L K d = (wayR L K d).take n ++ (wayR L K d).drop n := (List.take_append_drop n _).symm
  constructor
  · intro hk
    rw [hk] at eW eS
    rw [eW, eS]
    constructor
    · conv => rhs; rw [split, List.filter_append, filter_all (fun x hx => decide_eq_true (h0 x hx)), filter_none (S := List.drop n _) (fun x hx => decide_eq_false (by rw [h1 x hx]; decide)), List.append_nil]
    · conv => rhs; rw [split, List.filter_append, filter_none (S := List.take n _) (fun x hx => decide_eq_false (by rw [h0 x hx]; decide)), filter_all (S := List.drop n _) (fun x hx => decide_eq_true (by rw [h1 x hx]; decide)), List.nil_append]
  · intro hk
    rw [hk] at eW eS
    rw [eW, eS]
    constructor
    · conv => rhs; rw [split, List.filter_append, filter_none (S := List.take n _) (fun x hx => decide_eq_false (by rw [h0 x hx]; decide)), filter_all (S := List.drop n _) (fun x hx => decide_eq_true (h1 x hx)), List.nil_append]
    · conv => rhs; rw [split, List.filter_append, filter_all (S := List.take n _) (fun x hx => decide_eq_true (by rw [h0 x hx]; decide)), filter_none (S := List.drop n _) (fun x hx => decide_eq_false (by rw [h1 x hx]; decide)), List.append_nil]
/-- The hash beside the way. -/
theorem sidR_nd (hs : SrtR L) (ok : PrsOk L) (hd : d < 256) : ndR (256 - (d + 1)) (sidR L K d) = sdP (vP L) (ksP L) K d := by
  rw [ndR_pl _ (by omega) (sidR_ok ok) (sidR_srt hs) (by rw [show 256 - (256 - (d + 1)) = d + 1 by omega]; exact sidR_agr hd)]
  unfold sdP
  rw [show 256 - (d + 1) = 255 - d by omega]
  have ag : ∀ x ∈ ksP (sidR L K d), ∀ y ∈ ksP (sidR L K d), AgreeB (256 - (255 - d)) x y := fun x hx y hy => by
    obtain ⟨u, hu, rfl⟩ := ks_mem.1 hx
    obtain ⟨v, hv, rfl⟩ := ks_mem.1 hy
    rw [show 256 - (255 - d) = d + 1 by omega]
    exact sidR_agr hd u hu v hv
  refine pl_congr _ (by omega) (ks_ok (sidR_ok ok)) ag (fun x => ?_) (fun x hx => ?_)
  · rw [List.mem_filter, ks_mem, ks_mem]
    constructor
    · rintro ⟨u, hu, rfl⟩
      obtain ⟨h1, h2⟩ := sidR_mem hu
      exact ⟨⟨u, h1, rfl⟩, by simpa using h2⟩
    · rintro ⟨⟨u, hu, rfl⟩, h2⟩
      exact ⟨u, List.mem_filter.2 ⟨hu, h2⟩, rfl⟩
  · obtain ⟨u, hu, rfl⟩ := ks_mem.1 hx
    rw [vP_at (sidR_srt hs) hu, vP_at hs (sidR_mem hu).1]
end
/-- Two proofs of one way are the same. -/
theorem pvn_same {V W : List Int → List Int} {S S' : List (List Int)} {K M M' : List Int} {Ss Ss' : List (List Int)} (h : PvN V S K 256 M Ss) (h' : PvN W S' K 256 M' Ss') (ok : ∀ x ∈ S, KyOk x) (hm : ∀ x, x ∈ S ↔ x ∈ S') (hv : ∀ x ∈ S, V x = W x) : M = M' ∧ Ss = Ss' := by
  have e : ∀ i, i < 256 → sdP V S K i = sdP W S' K i := fun i hi => by
    unfold sdP
    refine pl_congr _ (by omega) (fun x hx => ok x (List.mem_filter.1 hx).1) (fun x hx y hy j hj => ?_) (fun x => ?_) (fun x hx => hv x (List.mem_filter.1 hx).1)
    · have h1 : dif x K = i := by simpa using (List.mem_filter.1 hx).2
      have h2 : dif y K = i := by simpa using (List.mem_filter.1 hy).2
      by_cases e : j = i
      · have n1 := dif_ne (a := x) (b := K) (by omega)
        have n2 := dif_ne (a := y) (b := K) (by omega)
        rw [h1] at n1
        rw [h2] at n2
        have := bit01 x i
        have := bit01 y i
        have := bit01 K i
        rw [e]; omega
      · rw [dif_agree x K j (by omega), dif_agree y K j (by omega)]
    · rw [List.mem_filter, List.mem_filter, hm x]
  have e2 : ∀ n, n ≤ 256 → prvS V S K n = prvS W S' K n := by
    intro n
    induction n with
    | zero => intro _; simp [prvS]
    | succ n ih => intro hn; rw [prvS_succ, prvS_succ, ih (by omega), e n (by omega)]
  refine ⟨key_eq h.ky h'.ky (fun i hi => by rw [h.bit i hi, h'.bit i hi, e i hi]), by rw [h.ss, h'.ss, e2 256 (by omega)]⟩
/-- A bit that is not set, added. -/
theorem add_or : ∀ x : Fin 256, ∀ t : Fin 8, (x.val : Int) / ((2 ^ (7 - t.val) : Nat) : Int) % 2 = 0 → IntKind.u8.wrap ((x.val : Int) + ((2 ^ (7 - t.val) : Nat) : Int)) = bits .or .u8 (x.val : Int) (((128 : Nat) / 2 ^ t.val : Nat) : Int) := by decide +kernel
theorem add_mOr {M : List Int} {l : Nat} (h : KyOk M) (hb : bitI M l = 0) : M.set (l / 8) (IntKind.u8.wrap (M.getD (l / 8) 0 + ((2 ^ (7 - l % 8) : Nat) : Int))) = mOr M l := by
  have hx := h.by_.getD (l / 8)
  obtain ⟨x, hx2⟩ : ∃ x : Fin 256, M.getD (l / 8) 0 = (x.val : Int) := ⟨⟨(M.getD (l / 8) 0).toNat, by omega⟩, by show _ = (((M.getD (l / 8) 0).toNat : Nat) : Int); omega⟩
  unfold mOr
  unfold bitI at hb
  rw [hx2] at hb ⊢
  have ec : ((2 : Int) ^ (7 - l % 8)) = ((2 ^ (7 - l % 8) : Nat) : Int) := by rw [Int.natCast_pow]; rfl
  rw [ec] at hb
  have := add_or x ⟨l % 8, by omega⟩ hb
  simp only at this
  rw [this]
end Go.Proofs.YtjlodnecdngdfaaDoor
namespace Go.Proofs.YtjlodnecdngdfaaDoor
set_option maxRecDepth 100000
open Go.RowKit

def pfPlaces : List (Nat × Nat) := [(0, 32), (32, 1)]
@[go_sem ↓] theorem Tryd.build_pf (ps : Array (Nat × Value)) : Instr.build 48 ps = rowBuild 48 ps := rfl
/-- What Same reads. -/
structure SbS (w wr : World) (M : List Int) (q q' : Option Addr) (k k' : Nat) (Ss : List (List Int)) : Prop where
  below : Below w.heap.size w wr
  hA : PfB 48 wr w.heap.size M (.slice q Ss.length k)
  hB : PfB 50 wr (w.heap.size + 1) M (.slice q' Ss.length k')
  rA : RdHs wr q Ss
  rB : RdHs wr q' Ss
theorem SbS.drewN {w wr : World} {M : List Int} {q q' : Option Addr} {k k' : Nat} {Ss : List (List Int)} (h : SbS w wr M q q' k k' Ss) (n : Nat) : SbS w (wr.drewN n) M q q' k k' Ss :=
  ⟨below_drewN h.below n, h.hA, h.hB, h.rA, h.rB⟩
set_option maxHeartbeats 8000000 in
theorem Same5_any {w : World} {M : List Int} {q q' : Option Addr} {k k' : Nat} {Ss : List (List Int)} (hM : M.length = 32) (hs : RdHs w q Ss) (hs' : RdHs w q' Ss) (ok : HsOk Ss) (hn : Ss.length ≤ 140737488355328) :
    Calls Tryd.prog 21 #[.agg (pfRow M (.slice q Ss.length k)).toArray, .agg (pfRow M (.slice q' Ss.length k')).toArray] w fun e w' => e = .returned (.bool true) ∧ Below w.heap.size w w' := by
  have P1 := (PfB.new (t := 48) w M (.slice q Ss.length k)).alloc (.cells (pfRow M (.slice q' Ss.length k')).toArray 50)
  have P2 := PfB.new (t := 50) (w.alloc (.cells (pfRow M (.slice q Ss.length k)).toArray 48)) M (.slice q' Ss.length k')
  simp only [World.size_alloc] at P2
  have B0 := (((Below.refl w.heap.size w).alloc (Nat.le_refl _) (.cells (pfRow M (.slice q Ss.length k)).toArray 48)).alloc (by simp) (.cells (pfRow M (.slice q' Ss.length k')).toArray 50))
  have HL : Hid (∀ i, i < Ss.length → (Ss.getD i []).length = 32) := fun i hi => (ok.get i hi).1
  have S0 : Hid (SbS w _ M q q' k k' Ss) := Lib.hid ⟨B0, P1, P2, hs.on HL.out B0, hs'.on HL.out B0⟩
  have m1 := P1.mask hM
  have m2 := P2.mask hM
  have s1 := P1.sides hM
  have s2 := P2.sides hM
  have hlM := hc_len M
  have dM : (M == M) = true := beq_self_eq_true _
  clear P1 P2 hs hs' ok B0
  go_enter Tryd.func21, Tryd.ntmps21
  go_wp2_with fail
  go_loopw [5] (fun iv wr => ∃ i : Nat, iv = .int .i64 (i : Int) ∧ i ≤ Ss.length ∧ Hid (SbS w wr M q q' k k' Ss)) (fun iv _ => Ss.length - (intOf iv).toNat)
  case atStart => exact ⟨0, rfl, by omega, S0⟩
  case round =>
    clear S0 m1 m2 s1 s2
    obtain ⟨i, rfl, hi, hS⟩ := hrel
    have c2 := hS.out.hA.sides hM
    have d2 := hS.out.hB.sides hM
    by_cases hlt : i < Ss.length
    · have hne : Ss ≠ [] := fun e => by rw [e] at hlt; simp at hlt
      obtain ⟨b, off, rfl, hx⟩ := hS.out.rA.resolve_left hne
      obtain ⟨b', off', rfl, hx'⟩ := hS.out.rB.resolve_left hne
      have r1 := hx i hlt
      have r2 := hx' i hlt
      have hl := HL.out i hlt
      have lc := hc_len (Ss.getD i [])
      obtain ⟨F, hF⟩ : ∃ F, Ss.getD i [] = F := ⟨_, rfl⟩
      rw [hF] at r1 r2 hl lc
      have dg : (F == F) = true := by simp
      clear hx hx' hne hF
      go_wp2_with fail
      go_region
      go_wp2_with fail
      go_roundw
      case rel => exact ⟨i + 1, by go_num, by omega, Lib.hid (hS.out.drewN _)⟩
      case measure => simp [intOf]; omega
    · obtain rfl : i = Ss.length := by omega
      have BE := Lib.hid hS.out.below
      clear hS
      go_wp2_with fail
      go_ret
      exact ⟨rfl, BE.out⟩
end Go.Proofs.YtjlodnecdngdfaaDoor
namespace Go.Proofs.YtjlodnecdngdfaaDoor
open Go.RowKit
set_option maxRecDepth 100000

@[go_sem ↓] theorem Tryd.zero_pf5 (w : World) : (zeroValue 50).run Tryd.prog w = .ok (.agg (pfRow zero32 (.slice none 0 0)).toArray) w := by kernel_rfl
theorem Tryd.built_pf5 (ps : List (Nat × Value)) : Tryd.prog.built 50 ps = Instr.fill (fun i => pfPlaces.toArray[i]?) (pfRow zero32 (.slice none 0 0)).toArray ps := by kernel_rfl
@[go_sem ↓] theorem Tryd.build_pf5 (ps : Array (Nat × Value)) : Instr.build 50 ps = rowBuild 50 ps := rfl
@[go_sem] theorem Tryd.run_pf5_none (w : World) : (rowBuild 50 #[]).run Tryd.prog w = .ok (.agg (pfRow zero32 (.slice none 0 0)).toArray) w := by
  refine run_build w _ _ _ ?_
  rw [Tryd.built_pf5]
  rfl
end Go.Proofs.YtjlodnecdngdfaaDoor
