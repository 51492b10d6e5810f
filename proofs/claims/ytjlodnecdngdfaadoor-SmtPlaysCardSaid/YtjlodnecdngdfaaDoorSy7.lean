/-
  Package smt: what stands at level 0 above a leaf that is alone.; A sparse tree in memory: its nodes, what they remember.; A list of pairs under unlike keys: what is told of a key, what a Put makes of the list.; Package smt: where two keys part.
-/
import Derived.Lib.BitFns
import Derived.BigQuiet
import Derived.Deep.QuietTactic
import Derived.Deep.CutRange
import Derived.Test.YtjlodnecdngdfaaDoorSy6
namespace Go.Proofs.YtjlodnecdngdfaaDoor
open Go.RowKit
set_option maxRecDepth 100000

/-- Within climb: the node, the hash so far, the answer's cell. -/
structure ClS (w wr : World) (b hb rb : Nat) (n : Nd) (X : List Int) : Prop where
  chg : Chg w wr [b]
  nd : NdB wr b n
  hh : HashAt wr hb X
  rz : HashAt wr rb zero32
section
variable {w W W' : World} {b hb rb : Nat} {n : Nd} {X : List Int}
theorem ClS.on (h : ClS w W b hb rb n X) (hx : Below W.heap.size W W') : ClS w W' b hb rb n X :=
  ⟨h.chg.trans (T := []) (Chg.below hx (Nat.le_refl _) []) (by simp), h.nd.on hx, h.hh.on hx, h.rz.on hx⟩
theorem NdB.others (h : NdB W b n) {k : Nat} (hk : b ≠ k) (o : Nat) (vs : List Value) : NdB (W.setCells k o vs) b n := by
  unfold NdB
  rw [setCells_other hk]; exact h
theorem HashAt.others {F : List Int} (h : HashAt W b F) {k : Nat} (hk : b ≠ k) (o : Nat) (vs : List Value) : HashAt (W.setCells k o vs) b F := by
  unfold HashAt
  rw [setCells_other hk]; exact h
theorem ClS.put (h : ClS w W b hb rb n X) (hw : w.heap.size ≤ hb) (hne : b ≠ hb) (hre : rb ≠ hb) (lX : X.length = 32) {Y : List Int} (lY : Y.length = 32) : ClS w (W.setCells hb 0 (hc Y)) b hb rb n Y :=
  ⟨h.chg.setCells (.inr hw) _ _, h.nd.others hne _ _, h.hh.put lX lY, h.rz.others hre _ _⟩
end

set_option maxHeartbeats 8000000 in
theorem climb_leaf {w : World} {p m b c : Nat} {n : Nd} {V : List Int} (hT : Tbl w) (ok : n.ok) (hk : n.key = K1) (bK : Bytes K1) (hV : V.length = 32) (bV : Bytes V) (hf : n.fork = 256) (ht : n.told = false) (hn : NdB w b n) (hp : w.cell? ⟨p, 0, none⟩ = some (.map (some m))) (hm : w.heap[m]? = some (.map (M1 (.agg (hc V).toArray)) c)) (hpb : p ≠ b) (hmb : m ≠ b) (hgb : 1 ∉ [b]) :
    Calls Tryd.prog 44 #[.pointer (some ⟨p, 0, none⟩), .pointer (some ⟨b, 0, none⟩), .int .i64 0] w fun e w' => e = .returned (.agg (hc (upH K1 256 (lfH K1 V) 256)).toArray) ∧ Chg w w' [b] ∧ NdB w' b { n with own := lfH K1 V, told := true } := by
  have HZ := Lib.hid (HashAt.new w zero32)
  have B0 := Lib.hid ((Below.refl w.heap.size w).alloc (Nat.le_refl _) (.cells (hc zero32).toArray 24))
  have hbw : b < w.heap.size := hn.lt
  have HT := Lib.hid hT
  have KH := Lib.hid (here_leaf (hT.on B0.out hT.pos) ok hk bK hV bV hf ht (hn.alloc (.cells (hc zero32).toArray 24)) (by rw [World.cell?_of_block (w := w) (Below.heap_alloc _ _ _ (World.block_lt_of_cell? w _ hp))]; exact hp) (by rw [Below.heap_alloc _ _ _ (Array.getElem?_eq_some_iff.1 hm).1]; exact hm) hpb hmb hgb)
  have OK := Lib.hid ok
  have HK := Lib.hid hk
  have HF := Lib.hid hf
  have BK := Lib.hid bK
  clear hT hk bK hV bV hf ht hn hp hm hpb hmb
  go_enter Tryd.func44, Tryd.ntmps44
  go_wp2_with fail
  refine KH.out.mono ?_
  rintro e w2 ⟨rfl, hc2, hn2⟩
  have hlF := lfH_len K1 V
  have LB := Lib.hid (lfH_bytes K1 V)
  obtain ⟨F, hF⟩ : ∃ F, lfH K1 V = F := ⟨_, rfl⟩
  have HL := Lib.hid hF
  rw [hF] at hn2 hlF LB ⊢
  clear KH hF
  have ok2 : Nd.ok { n with own := F, told := true } := ⟨OK.out.key, hlF, OK.out.high⟩
  have hsz1 : w.heap.size < w2.heap.size := by
    have := hc2.size
    simp only [World.size_alloc] at this
    omega
  have C2 := Lib.hid ((Chg.below B0.out (Nat.le_refl _) [b]).trans hc2 (fun x hx _ => hx))
  have Z2 := HZ.out.chg hc2 (by simp; omega)
  have hZ3 := HashAt.new w2 zero32
  have hth := hZ3.there zero32_len
  have S3 : ClS w ((w2.alloc (.cells (hc zero32).toArray 24)).setCells w2.heap.size 0 (hc F)) b w2.heap.size w.heap.size { n with own := F, told := true } F :=
    ClS.put (X := zero32) ⟨C2.out.alloc _, hn2.alloc _, hZ3, Z2.alloc _⟩ (by omega) (by omega) (by omega) zero32_len hlF
  have f3 := (S3.nd.facts ok2).1
  have f3' : ((w2.alloc (.cells (hc zero32).toArray 24)).setCells w2.heap.size 0 (hc F)).cell? ⟨b, 32, none⟩ = some (.int .i64 256) := by
    rw [f3]
    show some (Value.int .i64 n.fork) = _
    rw [HF.out]
  clear f3 hc2 hn2 Z2 hZ3 C2 HZ B0
  have S3 := Lib.hid S3
  go_wp2_with fail
  clear hth f3'
  generalize (w2.alloc (.cells (hc zero32).toArray 24)).setCells w2.heap.size 0 (hc F) = w3 at *
  go_loopw [8] (fun iv wr => ∃ k : Nat, iv = .int .i64 (255 - (k : Int)) ∧ k ≤ 256 ∧ Hid (ClS w wr b w2.heap.size w.heap.size { n with own := F, told := true } (upH K1 256 F k))) (fun iv _ => (intOf iv + 1).toNat)
  case atStart => exact ⟨0, rfl, by omega, S3⟩
  case round =>
    clear S3
    obtain ⟨k, rfl, hk, hS⟩ := hrel
    have lX := upH_len K1 256 hlF k
    by_cases hlt : k < 256
    · obtain ⟨i, hi⟩ : ∃ i : Nat, 255 - (k : Int) = i := ⟨255 - k, by omega⟩
      have hi2 : i < 256 := by omega
      have HI := Lib.hid (show 256 - 1 - k = i by omega)
      rw [hi]
      have bX := Lib.hid (upH_bytes K1 256 LB.out k)
      have HU := Lib.hid (show upH K1 256 F (k + 1) = stp K1 i (upH K1 256 F k) by rw [upH, HI.out])
      obtain ⟨X, hX⟩ : ∃ X, upH K1 256 F k = X := ⟨_, rfl⟩
      rw [hX] at lX bX hS HU
      have rk := (hS.out.nd.facts ok2).2.2.2.2.2.2.1
      have rk' : rowOf wr b 0 32 = hc K1 := by rw [rk]; show hc n.key = _; rw [HK.out]
      have hlk := hc_len K1
      have k32 := K1_len
      clear hX rk
      go_wp2_with fail
      refine (bit_any K1_len BK.out hi2).mono ?_
      rintro e w4 ⟨rfl, hb4⟩
      have S4 := Lib.hid (hS.out.on hb4)
      have r4 := S4.out.hh.row lX
      have T4 := Lib.hid (HT.out.chg S4.out.chg hgb)
      have lxx := hc_len X
      clear hS hb4 rk'
      by_cases hz : bitI K1 i = 0
      · have dz : (bitI K1 i == 0) = true := by rw [hz]; rfl
        have HU2 := Lib.hid (show stp K1 i X = abH X zero32 by unfold stp; rw [if_pos hz])
        generalize bitI K1 i = z at *
        clear hz
        go_wp2_with fail
        refine (Above_any T4.out lX zero32_len bX.out zero32_bytes).mono ?_
        rintro e w5 ⟨rfl, hb5⟩
        have S5 := Lib.hid (S4.out.on hb5)
        have lY := abH_len X zero32
        rw [HU2.out] at HU
        generalize abH X zero32 = Y at *
        have th5 := S5.out.hh.there lX
        have S6 := Lib.hid (S5.out.put (by omega) (by omega) (by omega) lX lY)
        clear S4 r4 T4 hb5 S5 HU2
        go_wp2_with fail
        go_roundw
        case rel => exact ⟨k + 1, by congr 1; omega, by omega, by rw [HU.out]; exact S6⟩
        case measure => simp [intOf] <;> omega
      · have dz : (bitI K1 i == 0) = false := by simpa using hz
        have HU2 := Lib.hid (show stp K1 i X = abH zero32 X by unfold stp; rw [if_neg hz])
        generalize bitI K1 i = z at *
        clear hz
        go_wp2_with fail
        refine (Above_any T4.out zero32_len lX zero32_bytes bX.out).mono ?_
        rintro e w5 ⟨rfl, hb5⟩
        have S5 := Lib.hid (S4.out.on hb5)
        have lY := abH_len zero32 X
        rw [HU2.out] at HU
        generalize abH zero32 X = Y at *
        have th5 := S5.out.hh.there lX
        have S6 := Lib.hid (S5.out.put (by omega) (by omega) (by omega) lX lY)
        clear S4 r4 T4 hb5 S5 HU2
        go_wp2_with fail
        go_roundw
        case rel => exact ⟨k + 1, by congr 1; omega, by omega, by rw [HU.out]; exact S6⟩
        case measure => simp [intOf] <;> omega
    · obtain rfl : k = 256 := by omega
      obtain ⟨X, hX⟩ : ∃ X, upH K1 256 F 256 = X := ⟨_, rfl⟩
      have HX := Lib.hid hX
      rw [hX] at hS lX
      clear hX
      have r6 := hS.out.hh.row lX
      have th6 := hS.out.rz.there zero32_len
      have hput := (hS.out.rz.put zero32_len lX).row lX
      have C7 := Lib.hid (hS.out.chg.setCells (b := w.heap.size) (.inr (Nat.le_refl _)) (hc X) 0)
      have N7 := Lib.hid (hS.out.nd.others (k := w.heap.size) (by omega) 0 (hc X))
      have lxx := hc_len X
      clear hS
      go_wp2_with fail
      refine bodyPost_ret (v := .agg (hc X).toArray) (by simp [results, Tryd.results44, go_sem, hput, lX]) rfl ⟨by rw [HL.out, HX.out], C7.out, by rw [HL.out]; exact N7.out⟩
end Go.Proofs.YtjlodnecdngdfaaDoor
namespace Go.Proofs.YtjlodnecdngdfaaDoor
open Go.RowKit
set_option maxRecDepth 100000

/-- Block b holds a node of the tree t, its branches at x and y; what it remembers is so. -/
def NdA (w : World) (V : List Int → List Int) (t : Tr) (b : Nat) (x y : Option Addr) : Prop :=
  ∃ n : Nd, NdB w b n ∧ n.ok ∧ n.key = t.key ∧ n.fork = (t.fork : Int) ∧ n.lo = x ∧ n.hi = y ∧ (n.told = true → n.own = hereH V t) ∧ (n.known = true → ∃ lv : Nat, n.lvl = (lv : Int) ∧ n.high = aboveH V t lv)
/-- The tree t lies at block b, in the blocks bl. -/
def TrA (w : World) (V : List Int → List Int) : Tr → Nat → List Nat → Prop
  | .lf k, b, bl => bl = [b] ∧ ∃ x y, NdA w V (.lf k) b x y
  | .nd k f l r, b, bl => ∃ x y bl1 bl2, bl = b :: (bl1 ++ bl2) ∧ NdA w V (.nd k f l r) b (some ⟨x, 0, none⟩) (some ⟨y, 0, none⟩) ∧ TrA w V l x bl1 ∧ TrA w V r y bl2
section
variable {w w' : World} {V W : List Int → List Int}
theorem NdA.lt {t : Tr} {b : Nat} {x y : Option Addr} (h : NdA w V t b x y) : b < w.heap.size := by
  obtain ⟨n, h1, _⟩ := h
  exact h1.lt
theorem NdA.chg {t : Tr} {b : Nat} {x y : Option Addr} {S : List Nat} (h : NdA w V t b x y) (hc : Chg w w' S) (hb : b ∉ S) : NdA w' V t b x y := by
  obtain ⟨n, h1, h2⟩ := h
  exact ⟨n, h1.chg hc hb, h2⟩
theorem NdA.congr {t : Tr} {b : Nat} {x y : Option Addr} (h : NdA w V t b x y) (hv : ∀ k ∈ t.keys, V k = W k) : NdA w W t b x y := by
  obtain ⟨n, h1, h2, h3, h4, h5, h6, h7, h8⟩ := h
  refine ⟨n, h1, h2, h3, h4, h5, h6, fun ht => ?_, fun hk => ?_⟩
  · rw [h7 ht, hereH_congr hv]
  · obtain ⟨lv, e1, e2⟩ := h8 hk
    exact ⟨lv, e1, by rw [e2, aboveH_congr hv]⟩
theorem TrA.head : ∀ {t : Tr} {b : Nat} {bl : List Nat}, TrA w V t b bl → b ∈ bl
  | .lf _, b, bl, h => by rw [h.1]; simp
  | .nd _ _ _ _, b, bl, h => by
    obtain ⟨x, y, bl1, bl2, e, _⟩ := h
    rw [e]; simp
theorem TrA.lt : ∀ {t : Tr} {b : Nat} {bl : List Nat}, TrA w V t b bl → ∀ g ∈ bl, g < w.heap.size
  | .lf _, b, bl, h, g, hg => by
    obtain ⟨e, x, y, hn⟩ := h
    rw [e] at hg
    obtain rfl : g = b := by simpa using hg
    exact hn.lt
  | .nd _ _ l r, b, bl, h, g, hg => by
    obtain ⟨x, y, bl1, bl2, e, hn, hl, hr⟩ := h
    rw [e] at hg
    rcases List.mem_cons.1 hg with rfl | hg
    · exact hn.lt
    · rcases List.mem_append.1 hg with hg | hg
      · exact hl.lt g hg
      · exact hr.lt g hg
theorem TrA.chg {S : List Nat} (hc : Chg w w' S) : ∀ {t : Tr} {b : Nat} {bl : List Nat}, TrA w V t b bl → (∀ g ∈ bl, g ∉ S) → TrA w' V t b bl
  | .lf _, b, bl, h, hs => by
    obtain ⟨e, x, y, hn⟩ := h
    exact ⟨e, x, y, hn.chg hc (hs b (by rw [e]; simp))⟩
  | .nd _ _ l r, b, bl, h, hs => by
    obtain ⟨x, y, bl1, bl2, e, hn, hl, hr⟩ := h
    exact ⟨x, y, bl1, bl2, e, hn.chg hc (hs b (by rw [e]; simp)), hl.chg hc (fun g hg => hs g (by rw [e]; simp [hg])), hr.chg hc (fun g hg => hs g (by rw [e]; simp [hg]))⟩
theorem TrA.on {t : Tr} {b : Nat} {bl : List Nat} (h : TrA w V t b bl) (hb : Below w.heap.size w w') : TrA w' V t b bl := h.chg (Chg.below hb (Nat.le_refl _) []) (fun _ _ hm => by cases hm)
theorem TrA.congr : ∀ {t : Tr} {b : Nat} {bl : List Nat}, TrA w V t b bl → (∀ k ∈ t.keys, V k = W k) → TrA w W t b bl
  | .lf _, b, bl, h, hv => by
    obtain ⟨e, x, y, hn⟩ := h
    exact ⟨e, x, y, hn.congr hv⟩
  | .nd _ _ l r, b, bl, h, hv => by
    obtain ⟨x, y, bl1, bl2, e, hn, hl, hr⟩ := h
    exact ⟨x, y, bl1, bl2, e, hn.congr hv, hl.congr (fun k hk => hv k (List.mem_append.2 (.inl hk))), hr.congr (fun k hk => hv k (List.mem_append.2 (.inr hk)))⟩
/-- The node at a tree's own block. -/
theorem TrA.node : ∀ {t : Tr} {b : Nat} {bl : List Nat}, TrA w V t b bl → ∃ x y, NdA w V t b x y
  | .lf _, _, _, h => h.2
  | .nd _ _ _ _, _, _, h => by
    obtain ⟨x, y, bl1, bl2, e, hn, _⟩ := h
    exact ⟨_, _, hn⟩
/-- The tree with another node in its own block, its branches as they were. -/
theorem TrA.renode {S : List Nat} : ∀ {t : Tr} {b : Nat} {bl : List Nat}, TrA w V t b bl → bl.Nodup → Chg w w' S → (∀ g ∈ S, g < w.heap.size → g = b) → (∀ x y, NdA w V t b x y → NdA w' V t b x y) → TrA w' V t b bl
  | .lf _, b, bl, h, _, _, _, hn => by
    obtain ⟨e, x, y, h1⟩ := h
    exact ⟨e, x, y, hn _ _ h1⟩
  | .nd _ _ l r, b, bl, h, nd, hc, hs, hn => by
    obtain ⟨x, y, bl1, bl2, e, h1, hl, hr⟩ := h
    rw [e] at nd
    have hb := (List.nodup_cons.1 nd).1
    have hx : ∀ g, g ∈ bl1 ++ bl2 → g < w.heap.size → g ∉ S := fun g hg hlt hm => hb (by rw [← hs g hm hlt]; exact hg)
    exact ⟨x, y, bl1, bl2, e, hn _ _ h1, hl.chg hc (fun g hg => hx g (by simp [hg]) (hl.lt g hg)), hr.chg hc (fun g hg => hx g (by simp [hg]) (hr.lt g hg))⟩
end
/-- A map: its own block, the block of its pairs. -/
structure MpA (w : World) (p m : Nat) (E : List En) : Prop where
  cell : w.cell? ⟨p, 0, none⟩ = some (.map (some m))
  mp : ∃ c, w.heap[m]? = some (.map (mes E) c)
theorem MpA.chg {w w' : World} {p m : Nat} {E : List En} {S : List Nat} (h : MpA w p m E) (hc : Chg w w' S) (hp : p ∉ S) (hm : m ∉ S) : MpA w' p m E := by
  obtain ⟨c, h2⟩ := h.mp
  refine ⟨?_, c, ?_⟩
  · rw [World.cell?_of_block (w := w) (hc.block p (World.block_lt_of_cell? w _ h.cell) hp)]; exact h.cell
  · rw [hc.block m (Array.getElem?_eq_some_iff.1 h2).1 hm]; exact h2
theorem MpA.on {w w' : World} {p m : Nat} {E : List En} (h : MpA w p m E) (hb : Below w.heap.size w w') : MpA w' p m E := h.chg (Chg.below hb (Nat.le_refl _) []) (by simp) (by simp)
/-- All keys and values are hashes. -/
structure EnB (E : List En) : Prop where
  ok : EnOk E
  kb : ∀ e ∈ E, Bytes e.k
  vb : ∀ e ∈ E, Bytes e.v
theorem vOf_ok {E : List En} (h : EnB E) (K : List Int) : (vOf E K).length = 32 ∧ Bytes (vOf E K) := by
  unfold vOf
  cases hf : fndE K E 0 with
  | none => exact ⟨zero32_len, zero32_bytes⟩
  | some x =>
    obtain ⟨i, v⟩ := x
    obtain ⟨n, e, _, h2, _, h4⟩ := fnd_spec hf
    have hm : e ∈ E := List.mem_of_getElem? h2
    show v.length = 32 ∧ Bytes v
    rw [← h4]
    exact ⟨(h.ok e hm).2, h.vb e hm⟩
/-- What the reckoning of a tree asks of a world. -/
structure EvA (w : World) (p m : Nat) (E : List En) (t : Tr) (b : Nat) (bl : List Nat) : Prop where
  tbl : Tbl w
  mp : MpA w p m E
  tr : TrA w (vOf E) t b bl
theorem EvA.on {w w' : World} {p m : Nat} {E : List En} {t : Tr} {b : Nat} {bl : List Nat} (h : EvA w p m E t b bl) (hb : Below w.heap.size w w') : EvA w' p m E t b bl := ⟨h.tbl.on hb h.tbl.pos, h.mp.on hb, h.tr.on hb⟩
/-- The blocks lie apart. -/
structure ApA (p m : Nat) (bl : List Nat) : Prop where
  nd : bl.Nodup
  p : p ∉ bl
  m : m ∉ bl
  g : 1 ∉ bl
def HrQ (w : World) (E : List En) (t : Tr) (b : Nat) (bl : List Nat) (H : List Int) (e : Ending) (w' : World) : Prop := e = .returned (.agg (hc H).toArray) ∧ Chg w w' bl ∧ TrA w' (vOf E) t b bl
def HrP (E : List En) (t : Tr) : Prop := ∀ (w : World) (p m b : Nat) (bl : List Nat), EvA w p m E t b bl → ApA p m bl → Calls Tryd.prog 60 #[.pointer (some ⟨p, 0, none⟩), .pointer (some ⟨b, 0, none⟩)] w (HrQ w E t b bl (hereH (vOf E) t))
def ClP (E : List En) (t : Tr) : Prop := ∀ (w : World) (p m b lv : Nat) (bl : List Nat), EvA w p m E t b bl → ApA p m bl → lv ≤ t.fork → Calls Tryd.prog 44 #[.pointer (some ⟨p, 0, none⟩), .pointer (some ⟨b, 0, none⟩), .int .i64 (lv : Int)] w (HrQ w E t b bl (aboveH (vOf E) t lv))
def AbP (E : List En) (t : Tr) : Prop := ∀ (w : World) (p m b lv : Nat) (bl : List Nat), EvA w p m E t b bl → ApA p m bl → lv ≤ t.fork → Calls Tryd.prog 40 #[.pointer (some ⟨p, 0, none⟩), .pointer (some ⟨b, 0, none⟩), .int .i64 (lv : Int)] w (HrQ w E t b bl (aboveH (vOf E) t lv))
end Go.Proofs.YtjlodnecdngdfaaDoor
namespace Go.Proofs.YtjlodnecdngdfaaDoor
open Go.RowKit
set_option maxRecDepth 100000

def vR : List En → List Int → List Int
  | [], _ => zero32
  | e :: E, K => if K = e.k then e.v else vR E K
theorem fnd_vR (K : List Int) : ∀ (E : List En) (j : Nat), ((fndE K E j).map (·.2)).getD zero32 = vR E K
  | [], _ => rfl
  | e :: E, j => by
    unfold fndE vR
    by_cases h : K = e.k
    · rw [if_pos h, if_pos h]; rfl
    · rw [if_neg h, if_neg h, fnd_vR K E (j + 1)]
theorem vOf_vR (E : List En) (K : List Int) : vOf E K = vR E K := fnd_vR K E 0
theorem vR_none {K : List Int} : ∀ {E : List En}, (∀ x ∈ E, x.k ≠ K) → vR E K = zero32
  | [], _ => rfl
  | e :: E, h => by
    unfold vR
    rw [if_neg (fun hk => h e (by simp) hk.symm)]
    exact vR_none (fun x hx => h x (List.mem_cons_of_mem _ hx))
theorem vR_skip {K : List Int} {e : En} (hk : e.k ≠ K) {B : List En} : ∀ {A : List En}, vR (A ++ e :: B) K = vR (A ++ B) K
  | [] => by
    show vR (e :: B) K = vR B K
    conv => lhs; unfold vR
    rw [if_neg (fun h => hk h.symm)]
  | a :: A => by
    show vR (a :: (A ++ e :: B)) K = vR (a :: (A ++ B)) K
    unfold vR
    rw [vR_skip hk]
theorem vR_at {e : En} {B : List En} : ∀ {A : List En}, (∀ x ∈ A, x.k ≠ e.k) → vR (A ++ e :: B) e.k = e.v
  | [], _ => by
    show vR (e :: B) e.k = e.v
    unfold vR
    rw [if_pos rfl]
  | a :: A, h => by
    show vR (a :: (A ++ e :: B)) e.k = e.v
    unfold vR
    rw [if_neg (fun hk => h a (by simp) hk.symm)]
    exact vR_at (fun x hx => h x (List.mem_cons_of_mem _ hx))
theorem vR_app {K : List Int} {B : List En} : ∀ {A : List En}, (∀ x ∈ A, x.k ≠ K) → vR (A ++ B) K = vR B K
  | [], _ => rfl
  | a :: A, h => by
    show vR (a :: (A ++ B)) K = _
    conv => lhs; unfold vR
    rw [if_neg (fun hk => h a (by simp) hk.symm)]
    exact vR_app (fun x hx => h x (List.mem_cons_of_mem _ hx))
theorem vR_left {K : List Int} {B : List En} : ∀ {A : List En}, (∀ x ∈ B, x.k ≠ K) → vR (A ++ B) K = vR A K
  | [], h => vR_none h
  | a :: A, h => by
    show vR (a :: (A ++ B)) K = vR (a :: A) K
    unfold vR
    rw [vR_left h]
theorem vR_mem {K : List Int} : ∀ {E : List En}, (∃ x ∈ E, x.k = K) → ∃ x ∈ E, x.k = K ∧ vR E K = x.v
  | [], h => by obtain ⟨x, hx, _⟩ := h; cases hx
  | e :: E, h => by
    unfold vR
    by_cases hk : K = e.k
    · rw [if_pos hk]; exact ⟨e, by simp, hk.symm, rfl⟩
    · rw [if_neg hk]
      obtain ⟨x, hx, hxk⟩ := h
      rcases List.mem_cons.1 hx with rfl | hx
      · exact absurd hxk.symm hk
      · obtain ⟨y, hy, h1, h2⟩ := vR_mem ⟨x, hx, hxk⟩
        exact ⟨y, List.mem_cons_of_mem _ hy, h1, h2⟩
theorem fnd_none {K : List Int} : ∀ {E : List En} {j : Nat}, fndE K E j = none → ∀ x ∈ E, x.k ≠ K
  | [], _, _, x, hx => by cases hx
  | e :: E, j, h, x, hx => by
    unfold fndE at h
    by_cases hk : K = e.k
    · rw [if_pos hk] at h; cases h
    · rw [if_neg hk] at h
      rcases List.mem_cons.1 hx with rfl | hx
      · exact fun e => hk e.symm
      · exact fnd_none h x hx
theorem fnd_split {K V : List Int} : ∀ {E : List En} {j i : Nat}, fndE K E j = some (i, V) → ∃ A e B, E = A ++ e :: B ∧ e.k = K ∧ e.v = V ∧ i = j + A.length ∧ ∀ x ∈ A, x.k ≠ K
  | [], _, _, h => by cases h
  | e :: E, j, i, h => by
    unfold fndE at h
    by_cases hk : K = e.k
    · rw [if_pos hk] at h
      simp only [Option.some.injEq, Prod.mk.injEq] at h
      exact ⟨[], e, E, rfl, hk.symm, h.2, by simp [h.1], fun x hx => by cases hx⟩
    · rw [if_neg hk] at h
      obtain ⟨A, e', B, h1, h2, h3, h4, h5⟩ := fnd_split h
      exact ⟨e :: A, e', B, by rw [h1]; rfl, h2, h3, by rw [h4]; simp; omega, fun x hx => by
        rcases List.mem_cons.1 hx with rfl | hx
        · exact fun e => hk e.symm
        · exact h5 x hx⟩
/-- The pairs of a map: hashes, unlike keys, no value zero. -/
structure EnW (E : List En) : Prop where
  b : EnB E
  nd : (E.map (·.k)).Nodup
  nz : ∀ e ∈ E, e.v ≠ zero32
theorem EnW.key {E : List En} (h : EnW E) {K : List Int} : (∃ x ∈ E, x.k = K) ↔ vOf E K ≠ zero32 := by
  rw [vOf_vR]
  constructor
  · intro hm
    obtain ⟨x, hx, _, h2⟩ := vR_mem hm
    rw [h2]; exact h.nz x hx
  · intro hn
    refine Classical.byContradiction fun hm => hn (vR_none fun x hx hk => hm ⟨x, hx, hk⟩)
theorem EnW.nil : EnW [] := ⟨⟨fun e h => (by cases h), fun e h => (by cases h), fun e h => (by cases h)⟩, List.nodup_nil, fun e h => (by cases h)⟩
/-- A new key. -/
theorem EnW.more {E : List En} (h : EnW E) {K V : List Int} (c : Nat) (hK : KyOk K) (lV : V.length = 32) (bV : Bytes V) (hz : V ≠ zero32) (hn : fndE K E 0 = none) :
    EnW (E ++ [⟨K, V, c⟩]) ∧ ∀ k, vOf (E ++ [⟨K, V, c⟩]) k = if k = K then V else vOf E k := by
  have hno := fnd_none hn
  refine ⟨⟨⟨fun e he => ?_, fun e he => ?_, fun e he => ?_⟩, ?_, fun e he => ?_⟩, fun k => ?_⟩
  · rcases List.mem_append.1 he with he | he
    · exact h.b.ok e he
    · obtain rfl := List.mem_singleton.1 he; exact ⟨hK.len, lV⟩
  · rcases List.mem_append.1 he with he | he
    · exact h.b.kb e he
    · obtain rfl := List.mem_singleton.1 he; exact hK.by_
  · rcases List.mem_append.1 he with he | he
    · exact h.b.vb e he
    · obtain rfl := List.mem_singleton.1 he; exact bV
  · rw [List.map_append, List.nodup_append]
    refine ⟨h.nd, by simp, fun a ha b hb e => ?_⟩
    obtain ⟨x, hx, rfl⟩ := List.mem_map.1 ha
    simp at hb
    exact hno x hx (by rw [e, hb])
  · rcases List.mem_append.1 he with he | he
    · exact h.nz e he
    · obtain rfl := List.mem_singleton.1 he; exact hz
  · rw [vOf_vR, vOf_vR]
    by_cases hk : k = K
    · rw [if_pos hk, hk, vR_app hno]
      unfold vR
      rw [if_pos rfl]
    · rw [if_neg hk, vR_left (fun x hx => by obtain rfl := List.mem_singleton.1 hx; exact fun e => hk e.symm)]
/-- A key taken away. -/
theorem EnW.gone {E : List En} (h : EnW E) {K V : List Int} {i : Nat} (hn : fndE K E 0 = some (i, V)) :
    EnW (E.eraseIdx i) ∧ (∀ k, vOf (E.eraseIdx i) k = if k = K then zero32 else vOf E k) ∧ (E.eraseIdx i).length + 1 = E.length := by
  obtain ⟨A, e, B, rfl, hk, hv, hi, hA⟩ := fnd_split hn
  obtain rfl : i = A.length := by omega
  have he : (A ++ e :: B).eraseIdx A.length = A ++ B := by
    rw [List.eraseIdx_append_of_length_le (Nat.le_refl _)]; simp
  rw [he]
  have hsub : ∀ x ∈ A ++ B, x ∈ A ++ e :: B := fun x hx => by
    rcases List.mem_append.1 hx with hx | hx <;> simp [hx]
  have hnd := h.nd
  rw [List.map_append, List.map_cons, List.nodup_append] at hnd
  obtain ⟨n1, n2, n3⟩ := hnd
  obtain ⟨n4, n5⟩ := List.nodup_cons.1 n2
  have hB : ∀ x ∈ B, x.k ≠ K := fun x hx e' => n4 (by rw [hk, ← e']; exact List.mem_map.2 ⟨x, hx, rfl⟩)
  refine ⟨⟨⟨fun x hx => h.b.ok x (hsub x hx), fun x hx => h.b.kb x (hsub x hx), fun x hx => h.b.vb x (hsub x hx)⟩, ?_, fun x hx => h.nz x (hsub x hx)⟩, fun k => ?_, by simp; omega⟩
  · rw [List.map_append, List.nodup_append]
    exact ⟨n1, n5, fun a ha b hb => n3 a ha b (List.mem_cons_of_mem _ hb)⟩
  · rw [vOf_vR, vOf_vR]
    by_cases hk' : k = K
    · rw [if_pos hk', hk', vR_app hA, vR_none hB]
    · rw [if_neg hk', vR_skip (fun e' => hk' (by rw [← hk, e']))]
/-- A key with another value. -/
theorem EnW.over {E : List En} (h : EnW E) {K V V0 : List Int} {i : Nat} (lV : V.length = 32) (bV : Bytes V) (hz : V ≠ zero32) (hn : fndE K E 0 = some (i, V0)) :
    EnW (E.modify i fun e => { e with v := V }) ∧ (∀ k, vOf (E.modify i fun e => { e with v := V }) k = if k = K then V else vOf E k) ∧ (E.modify i fun e => { e with v := V }).map (·.k) = E.map (·.k) := by
  obtain ⟨A, e, B, rfl, hk, hv, hi, hA⟩ := fnd_split hn
  obtain rfl : i = A.length := by omega
  have he : ∀ A : List En, (A ++ e :: B).modify A.length (fun e => { e with v := V }) = A ++ { e with v := V } :: B := by
    intro A
    induction A with
    | nil => rfl
    | cons a A ih => rw [List.cons_append, List.length_cons, List.modify_succ_cons, ih]; rfl
  rw [he A]
  have hor : ∀ x ∈ A ++ { e with v := V } :: B, x ∈ A ++ e :: B ∨ x = { e with v := V } := fun x hx => by
    rcases List.mem_append.1 hx with hx | hx
    · exact .inl (by simp [hx])
    · rcases List.mem_cons.1 hx with hx | hx
      · exact .inr hx
      · exact .inl (by simp [hx])
  have hee : e ∈ A ++ e :: B := by simp
  refine ⟨⟨⟨fun x hx => ?_, fun x hx => ?_, fun x hx => ?_⟩, ?_, fun x hx => ?_⟩, fun k => ?_, by simp⟩
  · rcases hor x hx with hx | rfl
    · exact h.b.ok x hx
    · exact ⟨(h.b.ok e hee).1, lV⟩
  · rcases hor x hx with hx | rfl
    · exact h.b.kb x hx
    · exact h.b.kb e hee
  · rcases hor x hx with hx | rfl
    · exact h.b.vb x hx
    · exact bV
  · have := h.nd
    simpa using this
  · rcases hor x hx with hx | rfl
    · exact h.nz x hx
    · exact hz
  · rw [vOf_vR, vOf_vR]
    by_cases hk' : k = K
    · rw [if_pos hk', hk']
      subst hk
      exact vR_at (e := { e with v := V }) (B := B) (A := A) (fun x hx => hA x hx)
    · rw [if_neg hk', vR_skip (e := { e with v := V }) (fun e' => hk' (by rw [← hk]; exact e'.symm)), vR_skip (e := e) (fun e' => hk' (by rw [← hk, e']))]
/-- Each pair came at its own time. -/
structure EnC (E : List En) (c : Nat) : Prop where
  lt : ∀ e ∈ E, e.b < c
  nd : (E.map (·.b)).Nodup
theorem EnC.nil (c : Nat) : EnC [] c := ⟨fun e h => (by cases h), List.nodup_nil⟩
theorem EnC.more {E : List En} {c : Nat} (h : EnC E c) (K V : List Int) : EnC (E ++ [⟨K, V, c⟩]) (c + 1) := by
  refine ⟨fun e he => ?_, ?_⟩
  · rcases List.mem_append.1 he with he | he
    · have := h.lt e he; omega
    · obtain rfl := List.mem_singleton.1 he; exact Nat.lt_succ_self c
  · rw [List.map_append, List.nodup_append]
    refine ⟨h.nd, by simp, fun a ha b hb e => ?_⟩
    obtain ⟨x, hx, rfl⟩ := List.mem_map.1 ha
    simp at hb
    have := h.lt x hx
    omega
theorem EnC.gone {E : List En} {c : Nat} (h : EnC E c) (i : Nat) : EnC (E.eraseIdx i) c :=
  ⟨fun e he => h.lt e (List.mem_of_mem_eraseIdx he), List.Sublist.nodup ((List.eraseIdx_sublist E i).map _) h.nd⟩
theorem EnC.over {E : List En} {c : Nat} (h : EnC E c) (i : Nat) (V : List Int) : EnC (E.modify i fun e => { e with v := V }) c := by
  have hm : ∀ (l : List En) (i : Nat), (l.modify i fun e => { e with v := V }).map (·.b) = l.map (·.b) := by
    intro l
    induction l with
    | nil => intro i; cases i <;> rfl
    | cons a l ih =>
      intro i
      cases i with
      | zero => rfl
      | succ i => rw [List.modify_succ_cons, List.map_cons, ih i]; rfl
  refine ⟨fun e he => ?_, by rw [hm]; exact h.nd⟩
  have : e.b ∈ (E.modify i fun e => { e with v := V }).map (·.b) := List.mem_map.2 ⟨e, he, rfl⟩
  rw [hm] at this
  obtain ⟨x, hx, hb⟩ := List.mem_map.1 this
  rw [← hb]
  exact h.lt x hx
end Go.Proofs.YtjlodnecdngdfaaDoor
namespace Go.Proofs.YtjlodnecdngdfaaDoor
open Go.RowKit
set_option maxRecDepth 100000

theorem bits_xor_u8 (a b : Nat) (ha : a < 256) (hb : b < 256) : bits .xor .u8 (a : Int) (b : Int) = ((a ^^^ b : Nat) : Int) := by
  have hx : a ^^^ b < 2 ^ 8 := Nat.xor_lt_two_pow (by omega) (by omega)
  have h1 : (BitVec.ofInt 8 (a : Int)).toNat = a := by
    rw [BitVec.ofInt_natCast, BitVec.toNat_ofNat]; exact Nat.mod_eq_of_lt (by omega)
  have h2 : (BitVec.ofInt 8 (b : Int)).toNat = b := by
    rw [BitVec.ofInt_natCast, BitVec.toNat_ofNat]; exact Nat.mod_eq_of_lt (by omega)
  show IntKind.u8.wrap ((BitVec.ofInt 8 (a : Int) ^^^ BitVec.ofInt 8 (b : Int)).toNat : Int) = _
  rw [BitVec.toNat_xor, h1, h2]
  rw [IntKind.wrap_u8]
  omega
theorem len8_any (x : Int) (w : World) (h0 : 0 ≤ x) (h1 : x ≤ 255) : Calls Tryd.prog 82 #[.int .u8 x] w fun e w' => e = .returned (.int .i64 (Lib.bitLen x.toNat)) ∧ w' = w := by
  rw [← Lib.len8_int x h0 h1]
  go_enter Tryd.func82, Tryd.ntmps82
  go_wp2
  go_ret
  exact ⟨by kernel_rfl, rfl⟩
theorem lz8_any (x : Int) (w : World) (h0 : 0 ≤ x) (h1 : x ≤ 255) : Calls Tryd.prog 59 #[.int .u8 x] w fun e w' => e = .returned (.int .i64 (8 - (Lib.bitLen x.toNat : Int))) ∧ w' = w := by
  have hb := Lib.bitLen_le8' x h0 h1
  have w1 : IntKind.i64.wrap (8 - (Lib.bitLen x.toNat : Int)) = 8 - (Lib.bitLen x.toNat : Int) := IntWalk.i64_in _ (by omega)
  go_enter Tryd.func59, Tryd.ntmps59
  go_wp2_with fail
  refine (len8_any x _ h0 h1).mono ?_
  rintro e w1 ⟨rfl, h⟩
  obtain rfl := h.symm
  clear h
  go_wp2_with fail
  go_ret
  exact ⟨rfl, rfl⟩
theorem lz_bits : ∀ z : Fin 256, z.val ≠ 0 → 8 - Lib.bitLen z.val < 8 ∧ z.val / 2 ^ (7 - (8 - Lib.bitLen z.val)) % 2 = 1 ∧ ∀ i : Fin 8, i.val < 8 - Lib.bitLen z.val → z.val / 2 ^ (7 - i.val) % 2 = 0 := by decide +kernel
theorem xor_bit (a b k : Nat) : ((a ^^^ b) / 2 ^ k % 2 = 0 ↔ a / 2 ^ k % 2 = b / 2 ^ k % 2) := by
  have h := Nat.testBit_xor a b k
  simp only [Nat.testBit_eq_decide_div_mod_eq] at h
  rcases Nat.mod_two_eq_zero_or_one ((a ^^^ b) / 2 ^ k) with e | e <;> rcases Nat.mod_two_eq_zero_or_one (a / 2 ^ k) with e1 | e1 <;> rcases Nat.mod_two_eq_zero_or_one (b / 2 ^ k) with e2 | e2 <;> simp [e, e1, e2] at h ⊢
theorem bitI_byte {K : List Int} {i j a : Nat} (h : K.getD i 0 = (a : Int)) (hj : j < 8) : bitI K (8 * i + j) = ((a / 2 ^ (7 - j) % 2 : Nat) : Int) := by
  unfold bitI
  rw [show (8 * i + j) / 8 = i by omega, show (8 * i + j) % 8 = j by omega, h, Int.natCast_emod, Int.natCast_ediv, Int.natCast_pow]
  rfl
theorem agree_byte {K G : List Int} {i a b : Nat} (hK : K.getD i 0 = (a : Int)) (hG : G.getD i 0 = (b : Int)) (h : AgreeB (8 * i) K G) {m : Nat} (hm : m ≤ 8) (hb : ∀ j, j < m → (a ^^^ b) / 2 ^ (7 - j) % 2 = 0) : AgreeB (8 * i + m) K G := fun n hn => by
  by_cases h1 : n < 8 * i
  · exact h n h1
  · obtain ⟨j, rfl⟩ : ∃ j, n = 8 * i + j := ⟨n - 8 * i, by omega⟩
    rw [bitI_byte hK (by omega), bitI_byte hG (by omega), (xor_bit a b (7 - j)).1 (hb j (by omega))]
set_option maxHeartbeats 4000000 in
theorem differ_any {w : World} {K G : List Int} (hK : KyOk K) (hG : KyOk G) : Calls Tryd.prog 42 #[.agg (hc K).toArray, .agg (hc G).toArray] w fun e w' => e = .returned (.int .i64 (dif K G : Int)) ∧ Below w.heap.size w w' := by
  have b1 : Below w.heap.size w (w.alloc (.cells (hc K).toArray 24)) := (Below.refl _ _).alloc (Nat.le_refl _) _
  have b2 : Below w.heap.size w ((w.alloc (.cells (hc K).toArray 24)).alloc (.cells (hc G).toArray 24)) := b1.alloc b1.size _
  have hz : (w.alloc (.cells (hc K).toArray 24)).heap.size = w.heap.size + 1 := by simp
  have H0 := Lib.hid ((HashAt.new w K).alloc (.cells (hc G).toArray 24))
  have H1 := HashAt.new (w.alloc (.cells (hc K).toArray 24)) G
  rw [hz] at H1
  have H1 := Lib.hid H1
  have B2 := Lib.hid b2
  have OK := Lib.hid hK
  have OG := Lib.hid hG
  have HQ := Lib.hid (rfl : dif K G = dif K G)
  obtain ⟨D, hD⟩ : ∃ D, dif K G = D := ⟨_, rfl⟩
  have HD := Lib.hid hD
  rw [hD]
  clear hK hG b1 b2 hz hD HQ
  go_enter Tryd.func42, Tryd.ntmps42
  go_upto_region 1 with fail
  obtain ⟨ka, hka⟩ : ∃ z, w.heap.size = z := ⟨_, rfl⟩
  have HKA := Lib.hid hka
  rw [hka] at H0 H1 ⊢
  generalize (w.alloc (.cells (hc K).toArray 24)).alloc (.cells (hc G).toArray 24) = w2 at *
  clear hka
  have A0 : Hid (AgreeB (8 * 0) K G) := fun i hi => by omega
  go_wp2_with fail
  go_loopw [5, 6, 7] (fun iv xv kv wr => ∃ i : Nat, kv = .int .i64 (i : Int) ∧ i ≤ 32 ∧ Hid (Below w.heap.size w wr) ∧ Hid (HashAt wr ka K) ∧ Hid (HashAt wr (ka + 1) G) ∧ Hid (AgreeB (8 * i) K G)) (fun _ _ kv _ => 32 - (intOf kv).toNat)
  case atStart => exact ⟨0, rfl, by omega, B2, H0, H1, A0⟩
  case round =>
    clear B2 H0 H1 A0
    obtain ⟨i, rfl, hi, hB, hH0, hH1, hA⟩ := hrel
    by_cases hlt : i < 32
    · have e1 : decide ((i : Int) < 32) = true := decide_eq_true (by omega)
      have ca := hH0.out.cell (i := i) (by have := OK.out.len; omega)
      have cb := hH1.out.cell (i := i) (by have := OG.out.len; omega)
      have ba := OK.out.by_.getD i
      have bb := OG.out.by_.getD i
      obtain ⟨a, ha⟩ : ∃ x : Nat, K.getD i 0 = (x : Int) := ⟨(K.getD i 0).toNat, by omega⟩
      obtain ⟨b, hb⟩ : ∃ x : Nat, G.getD i 0 = (x : Int) := ⟨(G.getD i 0).toNat, by omega⟩
      have HA := Lib.hid ha
      have HBy := Lib.hid hb
      rw [ha] at ca ba
      rw [hb] at cb bb
      have hx := bits_xor_u8 a b (by omega) (by omega)
      have hz8 : a ^^^ b < 256 := Nat.xor_lt_two_pow (n := 8) (by omega) (by omega)
      obtain ⟨z, hzz⟩ : ∃ z, a ^^^ b = z := ⟨_, rfl⟩
      have HZ := Lib.hid hzz
      rw [hzz] at hx hz8
      have lK := hc_len K
      have lG := hc_len G
      have l1 := OK.out.len
      have l2 := OG.out.len
      clear ha hb hzz
      go_wp2_with fail
      go_quiet (fail)
      have hB' := Lib.hid (hB.out.trans ((show Below wr.heap.size wr (wr.drewN nq) from ⟨rfl, rfl, rfl, Nat.le_refl _, fun _ _ => rfl⟩).mono hB.out.size))
      have hH0' : Hid (HashAt (wr.drewN nq) ka K) := hH0.out
      have hH1' : Hid (HashAt (wr.drewN nq) (ka + 1) G) := hH1.out
      clear hB hH0 hH1 ca cb
      generalize wr.drewN nq = w3 at *
      by_cases hz0 : z = 0
      · have zn : ((z : Int) != 0) = false := by simp [hz0]
        have hA2 := Lib.hid (agree_byte HA.out HBy.out hA.out (m := 8) (by omega) (fun j hj => by rw [HZ.out, hz0]; simp))
        clear hz0
        go_wp2_with fail
        go_roundw
        case rel => exact ⟨i + 1, by go_num, by omega, hB', hH0', hH1', by rw [show 8 * (i + 1) = 8 * i + 8 by omega]; exact hA2⟩
        case measure => simp [intOf]; omega
      · have zn : ((z : Int) != 0) = true := by simp [hz0]
        have w1 : IntKind.i64.wrap (8 * (i : Int)) = 8 * (i : Int) := IntWalk.i64_in _ (by omega)
        obtain ⟨l1', l2', l3'⟩ := lz_bits ⟨z, hz8⟩ hz0
        have hD2 : D = 8 * i + (8 - Lib.bitLen z) := by
          rw [← HD.out]
          refine dif_is (agree_byte HA.out HBy.out hA.out (m := 8 - Lib.bitLen z) (by omega) (fun j hj => by rw [HZ.out]; exact l3' ⟨j, by omega⟩ hj)) (by simp only at l1'; omega) (fun e => ?_)
          rw [bitI_byte HA.out l1', bitI_byte HBy.out l1'] at e
          have := (xor_bit a b (7 - (8 - Lib.bitLen z))).2 (by exact_mod_cast e)
          rw [HZ.out] at this
          have l2x : z / 2 ^ (7 - (8 - Lib.bitLen z)) % 2 = 1 := l2'
          omega
        have hb8 : Lib.bitLen z ≤ 8 := by have := Lib.bitLen_le8 ⟨z, hz8⟩; exact this
        have HD2 := Lib.hid hD2
        have w2' : IntKind.i64.wrap (8 * (i : Int) + (8 - (Lib.bitLen z : Int))) = (D : Int) := by
          rw [hD2, show 8 * (i : Int) + (8 - (Lib.bitLen z : Int)) = ((8 * i + (8 - Lib.bitLen z) : Nat) : Int) by omega]
          exact IntWalk.i64_in _ (by omega)
        clear l1' l2' l3' hD2 hz0
        go_wp2_with fail
        refine (lz8_any (z : Int) _ (by omega) (by omega)).mono ?_
        rintro e wz ⟨rfl, hwz⟩
        obtain rfl := hwz.symm
        clear hwz
        rw [show ((z : Int)).toNat = z from rfl]
        go_wp2_with fail
        go_ret
        exact ⟨rfl, hB'.out⟩
    · have e1 : decide ((i : Int) < 32) = false := decide_eq_false (by omega)
      have hD2 : Hid (D = 256) := by
        show _ = _
        rw [← HD.out]
        have h1 : AgreeB 256 K G := by
          have := hA.out
          rw [show 8 * i = 256 by omega] at this
          exact this
        have := dif_of h1 (Nat.le_refl _)
        have := dif_le K G
        omega
      go_wp2_with fail
      go_ret
      exact ⟨by rw [hD2.out]; rfl, hB.out⟩
end Go.Proofs.YtjlodnecdngdfaaDoor
