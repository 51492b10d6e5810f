/-
  Package book: Put, of the first string and of the second one under its hash.
-/
import Derived.Test.YtimcjnocmbbahaaDoorBookSt
import Derived.Test.YtimcjnocmbbahaaDoorDgLent
namespace Go.Proofs.YtimcjnocmbbahaaDoor
open Go.RowKit
set_option maxRecDepth 100000

theorem Tryd.infoStr : (Tryd.prog.info? 9).map (fun i => (i.zero, i.size, i.bytes)) = some (some (.string ⟨#[]⟩), 1, 16) := by kernel_rfl
theorem set_below {w : World} {R S : List Value} {T : TypeId} : Below w.heap.size w ((w.alloc (.cells R.toArray T)).setCells w.heap.size 0 S) := below_setCells' _ (Nat.le_refl _) _ _ ((Below.refl _ _).alloc (Nat.le_refl _) _)
theorem ne_mc {w : World} {b y : Nat} {es : Array MapEntry} {c : Nat} {cs : Array Value} {T : TypeId} {fr : Nat × Nat} (hb : w.heap[b]? = some (.map es c)) (hy : w.heap[y]? = some (.cells cs T fr)) : b ≠ y := fun e => by rw [e, hy] at hb; simp at hb
theorem own_neM {w : World} {e : TypeId} {size : Nat} {v : Value} {n : Nat} {xs : List Value} (h : w.ownsRow 0 e size v n xs) {p : Nat} {es : Array MapEntry} {c : Nat} (hp : w.heap[p]? = some (.map es c)) : v.ownBlock ≠ some p := by
  rcases h.2 with ⟨rfl, _⟩ | ⟨g, cap, cur, rfl, _, hg, _⟩
  · simp [Value.ownBlock]
  · intro hk
    obtain rfl : g = p := by simpa [Value.ownBlock] using hk
    rw [hp] at hg
    simp at hg
theorem own_put {w : World} {e : TypeId} {size : Nat} {v : Value} {n : Nat} {xs : List Value} (h : w.ownsRow 0 e size v n xs) {p : Nat} {es x : Array MapEntry} {c d : Nat} (hp : w.heap[p]? = some (.map es c)) : (putMap w p x d).ownsRow 0 e size v n xs :=
  own_keep h fun k hk => heap_putMap _ _ _ _ (fun e => own_neM h hp (by rw [hk, e]))
/-- What stays while a string is put in: the book's block, the hash, the entry. -/
def Keep (p S T h0 h1 : Nat) (en : List Value) (W : World) : Prop :=
  W.heap[p]? = some (.cells (bkRow S T zero32 false).toArray 49 (0, 0)) ∧ W.heap[h0]? = some (.cells (hc dgA).toArray 28 (0, 0)) ∧ W.heap[h1]? = some (.cells en.toArray 61 (0, 0))
section
variable {p S T h0 h1 : Nat} {en : List Value} {W W' : World}
theorem Keep.on (h : Keep p S T h0 h1 en W) (hb : Below W.heap.size W W') : Keep p S T h0 h1 en W' := ⟨blk_onB h.1 hb, blk_onB h.2.1 hb, blk_onB h.2.2 hb⟩
theorem Keep.drew (h : Keep p S T h0 h1 en W) : Keep p S T h0 h1 en W.drew := h
theorem Keep.put {x es : Array MapEntry} {c d : Nat} (h : Keep p S T h0 h1 en W) (_ : p ≠ S) (hm : W.heap[S]? = some (.map es d)) : Keep p S T h0 h1 en (putMap W S x c) :=
  ⟨(heap_putMap _ _ _ _ (ne_mc hm h.1)).trans h.1, (heap_putMap _ _ _ _ (ne_mc hm h.2.1)).trans h.2.1, (heap_putMap _ _ _ _ (ne_mc hm h.2.2)).trans h.2.2⟩
theorem blk_grown {b : Nat} {x : Obj} {row : Option Nat} (h : W.heap[b]? = some x) (hg : W.grownBy W' row) (hn : row ≠ some b) : W'.heap[b]? = some x := by
  rw [hg.block b (lt_blk h) (fun e => hn (by rw [e]))]; exact h
theorem Keep.grown {row : Option Nat} (h : Keep p S T h0 h1 en W) (hg : W.grownBy W' row) (a : row ≠ some p) (b : row ≠ some h0) (c : row ≠ some h1) : Keep p S T h0 h1 en W' :=
  ⟨blk_grown h.1 hg a, blk_grown h.2.1 hg b, blk_grown h.2.2 hg c⟩
theorem Keep.c0 (h : Keep p S T h0 h1 en W) : W.cell? ⟨p, 0, none⟩ = some (.map (some S)) := by rw [Joins.cell_of_block h.1]; rfl
theorem Keep.cr (h : Keep p S T h0 h1 en W) : rowOf W h0 0 32 = hc dgA := row_of h.2.1 (by rw [hc_len, dgA_len])
theorem Keep.cs (h : Keep p S T h0 h1 en W) {s : ByteArray} (e : en[32]? = some (.string s)) : W.cell? ⟨h1, 32, none⟩ = some (.string s) := by rw [Joins.cell_of_block h.2.2]; simpa using e
theorem BkS.grown {es : Array MapEntry} {ce : Nat} {ts : Array MapEntry} {ct : Nat} {tw : List Int} {cl : Bool} {row : Option Nat} (h : BkS W p S T es ce ts ct tw cl) (hg : W.grownBy W' row) (a : row ≠ some p) (b : row ≠ some S) (c : row ≠ some T) : BkS W' p S T es ce ts ct tw cl :=
  ⟨blk_grown h.blk hg a, blk_grown h.ms hg b, blk_grown h.mt hg c, h.ne, h.tw⟩
theorem Chg.growA {a : World} {L : List Nat} (h : Chg a W L) (hg : W.grownBy W' (Value.slice none 0 0).ownBlock) : Chg a W' L := h.trans (Chg.grown (S := []) hg (by simp [Value.ownBlock])) (by simp)
theorem Chg.growB {a : World} {L : List Nat} {v : Value} (h : Chg a W L) (hg : W.grownBy W' v.ownBlock) : Chg a W' (L ++ v.ownBlock.toList) :=
  (h.mono (T := L ++ v.ownBlock.toList) (fun k hk _ => List.mem_append_left _ hk)).trans (Chg.grown (S := v.ownBlock.toList) hg (by simp)) (fun x hx _ => List.mem_append_right _ hx)
end
section
variable {w : World} {p S T : Nat} {es : Array MapEntry} {ce : Nat} {ts : Array MapEntry} {ct : Nat} {tw : List Int} {cl : Bool}
theorem BkS.there2 (h : BkS w p S T es ce ts ct tw cl) : w.there p 2 32 := fun j hj => by
  refine ⟨?_, Joins.unfrozen_of_block h.blk _⟩
  rw [cell_of_row _ _ _ _ _ _ h.blk]
  simp [bkRow, hc_len, h.tw]
  omega
theorem BkS.mid (h : BkS w p S T es ce ts ct tw cl) {F : List Int} (hF : F.length = 32) : (w.setCells p 2 (hc F)).heap[p]? = some (.cells (bkRow S T F cl).toArray 49 (0, 0)) := by
  have := setCells_block (b := p) (t := 49) (fr := (0, 0)) (hc F) (o := 2) (w := w) (pre := [.map (some S), .map (some T)]) (mid := hc tw) (post := [.bool cl]) h.blk rfl (by rw [hc_len, hc_len, hF, h.tw])
  exact this
theorem BkS.at34 (h : BkS w p S T es ce ts ct tw cl) {F : List Int} (hF : F.length = 32) : (w.setCells p 2 (hc F)).cell? ⟨p, 34, none⟩ = some (.bool cl) ∧ (w.setCells p 2 (hc F)).frozen? ⟨p, 34, none⟩ = false := by
  refine ⟨?_, Joins.unfrozen_of_block (h.mid hF) 34⟩
  rw [Joins.cell_of_block (h.mid hF)]
  simp [bkRow, hc_len, hF, List.getElem?_append, List.getElem?_cons]
theorem BkS.clash (h : BkS w p S T es ce ts ct tw cl) {F : List Int} (hF : F.length = 32) : BkS ((w.setCells p 2 (hc F)).setCell ⟨p, 34, none⟩ (.bool true)) p S T es ce ts ct F true := by
  refine ⟨?_, ?_, ?_, h.ne, hF⟩
  · rw [Joins.block_setCell (i := 34) (h.mid hF) (.bool true)]
    congr 2
    apply Array.ext'
    simp [bkRow, hc_len, hF, List.set_append, List.set_cons_succ]
  · rw [Below.heap_setCell _ _ _ _ h.pS.symm, setCells_other h.pS.symm]; exact h.ms
  · rw [Below.heap_setCell _ _ _ _ h.pT.symm, setCells_other h.pT.symm]; exact h.mt
theorem own_clash {F : List Int} {e : TypeId} {size : Nat} {v : Value} {n : Nat} {xs : List Value} (ho : w.ownsRow 0 e size v n xs) (h : BkS w p S T es ce ts ct tw cl) (he : 49 ≠ e := by decide) : ((w.drew.setCells p 2 (hc F)).setCell ⟨p, 34, none⟩ (.bool true)).ownsRow 0 e size v n xs :=
  own_keep ho fun k hk => by
    have hne : k ≠ p := fun e' => own_ne ho h.blk he (by rw [hk, e'])
    rw [Below.heap_setCell _ _ _ _ hne, setCells_other hne]
    rfl
theorem chg_setCells2 {a : World} {L : List Nat} {b : Nat} (hb : b ∈ L ∨ a.heap.size ≤ b) : ∀ (vs : List Value) (o : Nat) {w : World}, Chg a w L → Chg a (w.setCells b o vs) L
  | [], _, _, h => h
  | v :: vs, o, _, h => chg_setCells2 hb vs (o + 1) (h.setCell (p := ⟨b, o, none⟩) hb v)
end
theorem enA_str : enA[32]? = some (.string ⟨#[97]⟩) := rfl
theorem enB_str : enB[32]? = some (.string ⟨#[98]⟩) := rfl
/-- One string is kept. -/
def PutPA (w : World) (p S T : Nat) (e : Ending) (w' : World) : Prop := e = .returned (.int .i64 0) ∧ Chg w w' [p, S, T] ∧ ∃ q k, BkS w' p S T (S1 (.slice q 1 k)) 1 T1 1 zero32 false ∧ w'.ownsRow 0 9 1 (.slice q 1 k) 1 [.string ⟨#[97]⟩] ∧ ∀ g, (Value.slice q 1 k).ownBlock = some g → w.heap.size ≤ g
/-- And a second one. -/
def PutPB (w : World) (p S T : Nat) (q : Option Addr) (k : Nat) (e : Ending) (w' : World) : Prop := e = .returned (.int .i64 0) ∧ Chg w w' ([p, S, T] ++ (Value.slice q 1 k).ownBlock.toList) ∧ ∃ q2 k2, BkS w' p S T (S1 (.slice q2 2 k2)) 1 T2 2 dgA true ∧ w'.ownsRow 0 9 1 (.slice q2 2 k2) 2 [.string ⟨#[97]⟩, .string ⟨#[98]⟩]

set_option maxHeartbeats 8000000 in
theorem PutA_any {w : World} {p S T : Nat} {a : Value} (h : BkS w p S T #[] 0 #[] 0 zero32 false) (ha : Rd w a [97]) :
    Calls Tryd.prog 20 #[.pointer (some ⟨p, 0, none⟩), .agg (hc dgA).toArray, a] w (PutPA w p S T) := by
  obtain ⟨i0, hi, hz0, hz1, hz2⟩ := info_parts Tryd.infoStr
  replace hi := Lib.hid hi
  replace hz0 := Lib.hid hz0
  replace hz1 := Lib.hid hz1
  replace hz2 := Lib.hid hz2
  obtain ⟨qa, ca, rfl⟩ := ha.len
  have b1 : Below w.heap.size w (w.alloc (.cells (hc dgA).toArray 28)) := (Below.refl _ _).alloc (Nat.le_refl _) _
  have hz : (w.alloc (.cells (hc dgA).toArray 28)).heap.size = w.heap.size + 1 := by simp
  have b3 : Below (w.alloc (.cells (hc dgA).toArray 28)).heap.size (w.alloc (.cells (hc dgA).toArray 28)) (((w.alloc (.cells (hc dgA).toArray 28)).alloc (.cells en0.toArray 61)).setCells (w.heap.size + 1) 0 enA) := by
    have := set_below (w := (w.alloc (.cells (hc dgA).toArray 28))) (R := en0) (S := enA) (T := 61)
    rw [hz] at this ⊢; exact this
  have B3 := Lib.hid (b1.trans (b3.mono b1.size))
  have ct0 : ((w.alloc (.cells (hc dgA).toArray 28)).alloc (.cells en0.toArray 61)).there (w.heap.size + 1) 0 33 := by
    have := there_newB (w := (w.alloc (.cells (hc dgA).toArray 28))) (R := en0) (T := 61) en0_len
    rw [hz] at this; exact this
  have E3 : Hid ((((w.alloc (.cells (hc dgA).toArray 28)).alloc (.cells en0.toArray 61)).setCells (w.heap.size + 1) 0 enA).heap[w.heap.size + 1]? = some (.cells enA.toArray 61 (0, 0))) := by
    have := set_blockB (w := (w.alloc (.cells (hc dgA).toArray 28))) (R := en0) (S := enA) (T := 61) (by rw [en0_len, enA_len])
    rw [hz] at this; exact this
  have H3 : Hid ((((w.alloc (.cells (hc dgA).toArray 28)).alloc (.cells en0.toArray 61)).setCells (w.heap.size + 1) 0 enA).heap[w.heap.size]? = some (.cells (hc dgA).toArray 28 (0, 0))) := blk_onB (heap_alloc_new w _) b3
  have h2 := h.on b1
  have S3 := Lib.hid (h.on B3.out)
  have cr : rowOf (w.alloc (.cells (hc dgA).toArray 28)) w.heap.size 0 32 = hc dgA := row_of (heap_alloc_new w _) (by rw [hc_len, dgA_len])
  have cs : (convert 22 9 (.slice qa 1 ca)).run Tryd.prog (w.alloc (.cells (hc dgA).toArray 28)) = .ok (.string ⟨#[97]⟩) (w.alloc (.cells (hc dgA).toArray 28)) := (ha.on b1).str (P := Tryd.prog) Tryd.underlying22 Tryd.underlying5 Tryd.underlying9
  have hle := enA_len
  have hlA := dgA_len
  clear h ha b1 b3 hz
  go_enter Tryd.func20, Tryd.ntmps20
  go_wp2_with fail
  refine (made_bk h2).mono ?_
  rintro e w1 ⟨rfl, hw1⟩
  obtain rfl := hw1.symm
  clear hw1
  go_wp2_with fail
  clear h2 cr cs ct0
  generalize (((w.alloc (.cells (hc dgA).toArray 28)).alloc (.cells en0.toArray 61)).setCells (w.heap.size + 1) 0 enA) = W3 at *
  generalize w.heap.size + 1 = h1 at *
  obtain ⟨c0, c1, c34, ctw⟩ := S3.out.cells
  have re := row_of E3.out enA_len
  have L0 := look_en0 S3.out.drew.mt
  have A3 := Lib.hid ((Below.refl W3.heap.size W3).alloc (Nat.le_refl _) (.cells #[] 62))
  have L1 := look_en0 (w := (W3.alloc (.cells #[] 62)).drew) (S3.out.on A3.out).drew.mt
  have re1 := row_of (w := (W3.alloc (.cells #[] 62)).drew) (blk_onB E3.out A3.out.drew) enA_len
  obtain ⟨d0, d1, d34, dtw⟩ := (S3.out.on A3.out).drew.cells
  have B4 := Lib.hid (B3.out.trans (A3.out.drew.mono B3.out.size))
  have S4 := Lib.hid (S3.out.on A3.out.drew)
  have E4 := Lib.hid (blk_onB E3.out A3.out.drew)
  have H4 := Lib.hid (blk_onB H3.out A3.out.drew)
  have hlen : (Builtin.len_ #[47] 3 #[.map (some T)]).run Tryd.prog (W3.alloc (.cells #[] 62)).drew = .ok (.int .i64 0) (W3.alloc (.cells #[] 62)).drew := by
    simp [Builtin.len_, run_underlying Tryd.underlying47, getMap S4.out.mt, goInt]
  go_region
  all_goals
    clear c0 c1 c34 ctw re L0 L1 re1 d0 d34 dtw A3 S3 E3 H3 B3
    go_wp2_with fail
    clear hlen d1
    generalize (W3.alloc (.cells #[] 62)).drew = W4 at *
    obtain ⟨c0, c1, c34, ctw⟩ := S4.out.cells
    have re := row_of E4.out enA_len
    have U0 := upd_en0 S4.out.drew.mt
    go_region
    clear c0 c1 c34 ctw re U0
    go_wp2_with fail
    have S5 := Lib.hid (S4.out.drew.putT T1 1)
    have C5 := Lib.hid (chg_putMap (S := [p, S, T]) (b := T) (Chg.below B4.out.drew (Nat.le_refl _) _) (.inl (by simp)) T1 1)
    have E5 := Lib.hid ((heap_putMap W4.drew T 1 T1 (y := h1) (ne_mc S4.out.mt E4.out)).trans E4.out)
    have H5 := Lib.hid ((heap_putMap W4.drew T 1 T1 (y := w.heap.size) (ne_mc S4.out.mt H4.out)).trans H4.out)
    clear S4 B4 E4 H4
    generalize putMap W4.drew T T1 1 = W5 at *
    have KP5 : Hid (Keep p S T w.heap.size h1 enA W5) := Lib.hid ⟨S5.out.blk, H5.out, E5.out⟩
    have b6 : Below W5.heap.size W5 ((W5.alloc (.cells #[.string ⟨#[97]⟩] 9)).drew) := ((Below.refl _ _).alloc (Nat.le_refl _) (.cells #[.string ⟨#[97]⟩] 9)).drew
    have KP6 := Lib.hid (KP5.out.on b6)
    have S6 := Lib.hid (S5.out.on b6)
    have ME := ent_h0 S6.out.ms
    have S7 := Lib.hid (S6.out.putS (S1 (.slice none 0 0)) 1)
    have KP7 : Hid (Keep p S T w.heap.size h1 enA (putMap (W5.alloc (.cells #[.string ⟨#[97]⟩] 9)).drew S (S1 (.slice none 0 0)) 1)) := KP6.out.put S6.out.pS S6.out.ms
    have ST7 : Hid ((putMap (W5.alloc (.cells #[.string ⟨#[97]⟩] 9)).drew S (S1 (.slice none 0 0)) 1).heap[W5.heap.size]? = some (.cells #[.string ⟨#[97]⟩] 9 (0, 0))) := by
      show _ = _
      rw [heap_putMap _ _ _ _ (fun e => by have := lt_blk S5.out.ms; omega)]
      exact heap_alloc_new W5 (.cells #[.string ⟨#[97]⟩] 9)
    have C7 : Hid (Chg w (putMap (W5.alloc (.cells #[.string ⟨#[97]⟩] 9)).drew S (S1 (.slice none 0 0)) 1) [p, S, T]) := chg_putMap (C5.out.trans (Chg.below b6 (Nat.le_refl _) []) (by simp)) (.inl (by simp)) _ _
    clear b6 S5 E5 H5 S6
    refine wp_region_held_drew (S := Keep p S T w.heap.size h1 enA) (by kernel_rfl) (by exact KP5.out.drew) (fun h0 => ?_)
    refine wpAnyH_take (i := 0) (v := ?_) (by rw [List.getElem?_toArray]; rfl) (by kernel_rfl) (by kernel_rfl) (by kernel_rfl) (by exact fun _ _ _ h => h) (Or.inl ⟨by rfl, ?_⟩) h0 ?_
    rotate_left
    · intro W hW
      go_simp
      all_goals with_reducible rfl
    try simp only [Act.put, List.setIfInBounds_toArray, List.set_cons_zero, List.set_cons_succ]
    refine wpAnyH_take (i := 1) (v := ?_) (by rw [List.getElem?_toArray]; rfl) (by kernel_rfl) (by kernel_rfl) (by kernel_rfl) (by exact fun _ _ _ h => h) (Or.inl ⟨by rfl, ?_⟩) h0 ?_
    rotate_left
    · intro W hW
      have c0 := hW.c0
      go_simp
      all_goals with_reducible rfl
    try simp only [Act.put, List.setIfInBounds_toArray, List.set_cons_zero, List.set_cons_succ]
    refine wpAnyH_take (i := 2) (v := ?_) (by rw [List.getElem?_toArray]; rfl) (by kernel_rfl) (by kernel_rfl) (by kernel_rfl) (by exact fun _ _ _ h => h) (Or.inl ⟨by rfl, ?_⟩) h0 ?_
    rotate_left
    · intro W hW
      go_simp
      all_goals with_reducible rfl
    try simp only [Act.put, List.setIfInBounds_toArray, List.set_cons_zero, List.set_cons_succ]
    refine wpAnyH_take (i := 3) (v := ?_) (by rw [List.getElem?_toArray]; rfl) (by kernel_rfl) (by kernel_rfl) (by kernel_rfl) (by exact fun _ _ _ h => h) (Or.inl ⟨by rfl, ?_⟩) h0 ?_
    rotate_left
    · intro W hW
      have c0 := hW.c0
      go_simp
      all_goals with_reducible rfl
    try simp only [Act.put, List.setIfInBounds_toArray, List.set_cons_zero, List.set_cons_succ]
    refine wpAnyH_take (i := 4) (v := ?_) (by rw [List.getElem?_toArray]; rfl) (by kernel_rfl) (by kernel_rfl) (by kernel_rfl) (by exact fun _ _ _ h => h) (Or.inl ⟨by rfl, ?_⟩) h0 ?_
    rotate_left
    · intro W hW
      have cr := hW.cr
      have hl := hlA
      go_simp
      all_goals with_reducible rfl
    try simp only [Act.put, List.setIfInBounds_toArray, List.set_cons_zero, List.set_cons_succ]
    refine wpAnyH_take (i := 5) (v := ?_) (by rw [List.getElem?_toArray]; rfl) (by kernel_rfl) (by kernel_rfl) (by kernel_rfl) (by exact fun _ _ _ h => h) (Or.inl ⟨by rfl, ?_⟩) h0 ?_
    rotate_left
    · intro W hW
      go_simp
      all_goals with_reducible rfl
    try simp only [Act.put, List.setIfInBounds_toArray, List.set_cons_zero, List.set_cons_succ]
    refine wpAnyH_take (i := 6) (v := ?_) (by rw [List.getElem?_toArray]; rfl) (by kernel_rfl) (by kernel_rfl) (by kernel_rfl) (by exact fun _ _ _ h => h) (Or.inl ⟨by rfl, ?_⟩) h0 ?_
    rotate_left
    · intro W hW
      have c32 := hW.cs enA_str
      go_simp
      all_goals with_reducible rfl
    try simp only [Act.put, List.setIfInBounds_toArray, List.set_cons_zero, List.set_cons_succ]
    refine wpAnyH_ready (rs := [7]) (by kernel_rfl) (by simp) ?_
    refine AllReadyH.cons (by rw [List.getElem?_toArray]; rfl) (fun K hK => ?_) AllReadyH.nil
    rw [if_pos (by rfl)]
    go_wp2_with fail
    refine hK.out _ _ (by exact KP6.out) (fun h7 => ?_)
    clear hK K
    try simp only [Act.put, List.setIfInBounds_toArray, List.set_cons_zero, List.set_cons_succ]
    refine wpAnyH_ready (rs := [8]) (by kernel_rfl) (by simp) ?_
    refine AllReadyH.cons (by rw [List.getElem?_toArray]; rfl) (fun K hK => ?_) AllReadyH.nil
    rw [if_pos (by rfl)]
    go_wp2_with fail
    refine hK.out _ _ (by exact KP7.out) (fun h8 => ?_)
    clear hK K
    try simp only [Act.put, List.setIfInBounds_toArray, List.set_cons_zero, List.set_cons_succ]
    refine wpAnyH_take (i := 9) (v := ?_) (by rw [List.getElem?_toArray]; rfl) (by kernel_rfl) (by kernel_rfl) (by kernel_rfl) (by exact fun _ _ _ h => h) (Or.inl ⟨by rfl, ?_⟩) h8 ?_
    rotate_left
    · intro W hW
      go_simp
      all_goals with_reducible rfl
    try simp only [Act.put, List.setIfInBounds_toArray, List.set_cons_zero, List.set_cons_succ]
    refine wpAnyH_take (i := 11) (v := ?_) (by rw [List.getElem?_toArray]; rfl) (by kernel_rfl) (by kernel_rfl) (by kernel_rfl) (by exact fun _ _ _ h => h) (Or.inl ⟨by rfl, ?_⟩) h8 ?_
    rotate_left
    · intro W hW
      go_simp
      all_goals with_reducible rfl
    try simp only [Act.put, List.setIfInBounds_toArray, List.set_cons_zero, List.set_cons_succ]
    refine wpAnyH_ready (rs := [10]) (by kernel_rfl) (by simp) ?_
    refine AllReadyH.cons (by rw [List.getElem?_toArray]; rfl) (fun K hK => ?_) AllReadyH.nil
    rw [if_pos (by rfl)]
    refine wp_append_row _ _ rfl Tryd.underlying51 hi.out hz0.out hz1.out hz2.out rfl (World.ownsRow_nil _ 0 _ 1) (news := [.string ⟨#[97]⟩]) (m := 1) ?rd ?b1 ?b2 ?_
    case rd =>
      refine Src.ofSlice _ Tryd.underlying51 _ _ _ _ rfl (fun j u hu => ?_) (fun u hu => ?_)
      · rw [addr_add, Nat.zero_add]
        rw [Joins.cell_of_block ST7.out]
        simpa using hu
      · obtain rfl := List.mem_singleton.1 hu
        rfl
    case b1 => unfold maxLen; omega
    case b2 => omega
    intro q2 k2 w2 own2 grow2' fr2'
    have grow2 : (putMap (W5.alloc (.cells #[.string ⟨#[97]⟩] 9)).drew S (S1 (.slice none 0 0)) 1).grownBy w2 (Value.slice none 0 0).ownBlock := grow2'
    have fr2 : (Value.slice q2 1 k2).ownBlock = (Value.slice none 0 0).ownBlock ∨ (Value.slice q2 1 k2).ownBlock = some (putMap (W5.alloc (.cells #[.string ⟨#[97]⟩] 9)).drew S (S1 (.slice none 0 0)) 1).heap.size := fr2'
    have G2 := Lib.hid grow2
    have O2 := Lib.hid own2
    have F2 := Lib.hid fr2
    have KP2 := Lib.hid (KP7.out.grown grow2 (by simp [Value.ownBlock]) (by simp [Value.ownBlock]) (by simp [Value.ownBlock]))
    have S8 := Lib.hid (S7.out.grown grow2 (by simp [Value.ownBlock]) (by simp [Value.ownBlock]) (by simp [Value.ownBlock]))
    have EF := ents_h (u := .slice q2 1 k2) S8.out.ms
    clear own2 grow2 fr2 grow2' fr2'
    refine hK.out _ _ (by exact KP2.out) (fun h10 => ?_)
    clear hK K
    try simp only [Act.put, List.setIfInBounds_toArray, List.set_cons_zero, List.set_cons_succ]
    refine wpAnyH_ready (rs := [12]) (by kernel_rfl) (by simp) ?_
    refine AllReadyH.cons (by rw [List.getElem?_toArray]; rfl) (fun K hK => ?_) AllReadyH.nil
    rw [if_pos (by rfl)]
    go_wp2_with fail
    refine hK.out _ _ (by exact KP2.out.put S8.out.pS S8.out.ms) (fun h12 => ?_)
    clear hK K
    try simp only [Act.put, List.setIfInBounds_toArray, List.set_cons_zero, List.set_cons_succ]
    refine wpAnyH_done (by kernel_rfl) ?_ _
    have S9 := Lib.hid (S8.out.putS (S1 (.slice q2 1 k2)) 1)
    have KP9 := Lib.hid (KP2.out.put (x := S1 (.slice q2 1 k2)) (c := 1) S8.out.pS S8.out.ms)
    have O9 : Hid ((putMap w2 S (S1 (.slice q2 1 k2)) 1).ownsRow 0 9 1 (.slice q2 1 k2) 1 [.string ⟨#[97]⟩]) := own_put O2.out S8.out.ms
    have C9 : Hid (Chg w (putMap w2 S (S1 (.slice q2 1 k2)) 1) ([p, S, T])) := chg_putMap (C7.out.growA G2.out) (.inl (by simp)) _ _
    have HWZ : Hid (w.heap.size ≤ W5.heap.size) := C5.out.size
    have F9 : Hid (∀ g, (Value.slice q2 1 k2).ownBlock = some g → w.heap.size ≤ g) := fun g hg => by
      rcases F2.out with e | e
      · rw [e] at hg; simp [Value.ownBlock] at hg
      · rw [e] at hg
        simp at hg
        have := HWZ.out
        omega
    clear S8 KP2 O2 C7 G2 EF ME S7 KP7 ST7 F2 HWZ C5
    go_wp2_with fail
    generalize putMap w2 S (S1 (.slice q2 1 k2)) 1 = W9 at *
    obtain ⟨c0, c1, c34, ctw⟩ := S9.out.cells
    have cr := KP9.out.cr
    have LH := look_h S9.out.drew.ms
    go_region
    clear c0 c1 c34 ctw cr LH
    go_wp2_with fail
    go_ret
    exact ⟨rfl, C9.out.drew, q2, k2, S9.out.drew, own_on O9.out ((Below.refl _ _).drew), F9.out⟩

set_option maxHeartbeats 8000000 in
theorem PutB_any {w : World} {p S T : Nat} {q : Option Addr} {k : Nat} {a : Value} (h : BkS w p S T (S1 (.slice q 1 k)) 1 T1 1 zero32 false) (hv : w.ownsRow 0 9 1 (.slice q 1 k) 1 [.string ⟨#[97]⟩]) (ha : Rd w a [98]) :
    Calls Tryd.prog 20 #[.pointer (some ⟨p, 0, none⟩), .agg (hc dgA).toArray, a] w (PutPB w p S T q k) := by
  obtain ⟨i0, hi, hz0, hz1, hz2⟩ := info_parts Tryd.infoStr
  replace hi := Lib.hid hi
  replace hz0 := Lib.hid hz0
  replace hz1 := Lib.hid hz1
  replace hz2 := Lib.hid hz2
  obtain ⟨qa, ca, rfl⟩ := ha.len
  have b1 : Below w.heap.size w (w.alloc (.cells (hc dgA).toArray 28)) := (Below.refl _ _).alloc (Nat.le_refl _) _
  have hz : (w.alloc (.cells (hc dgA).toArray 28)).heap.size = w.heap.size + 1 := by simp
  have b3 : Below (w.alloc (.cells (hc dgA).toArray 28)).heap.size (w.alloc (.cells (hc dgA).toArray 28)) (((w.alloc (.cells (hc dgA).toArray 28)).alloc (.cells en0.toArray 61)).setCells (w.heap.size + 1) 0 enB) := by
    have := set_below (w := (w.alloc (.cells (hc dgA).toArray 28))) (R := en0) (S := enB) (T := 61)
    rw [hz] at this ⊢; exact this
  have B3 := Lib.hid (b1.trans (b3.mono b1.size))
  have ct0 : ((w.alloc (.cells (hc dgA).toArray 28)).alloc (.cells en0.toArray 61)).there (w.heap.size + 1) 0 33 := by
    have := there_newB (w := (w.alloc (.cells (hc dgA).toArray 28))) (R := en0) (T := 61) en0_len
    rw [hz] at this; exact this
  have E3 : Hid ((((w.alloc (.cells (hc dgA).toArray 28)).alloc (.cells en0.toArray 61)).setCells (w.heap.size + 1) 0 enB).heap[w.heap.size + 1]? = some (.cells enB.toArray 61 (0, 0))) := by
    have := set_blockB (w := (w.alloc (.cells (hc dgA).toArray 28))) (R := en0) (S := enB) (T := 61) (by rw [en0_len, enB_len])
    rw [hz] at this; exact this
  have H3 : Hid ((((w.alloc (.cells (hc dgA).toArray 28)).alloc (.cells en0.toArray 61)).setCells (w.heap.size + 1) 0 enB).heap[w.heap.size]? = some (.cells (hc dgA).toArray 28 (0, 0))) := blk_onB (heap_alloc_new w _) b3
  have h2 := h.on b1
  have S3 := Lib.hid (h.on B3.out)
  have cr : rowOf (w.alloc (.cells (hc dgA).toArray 28)) w.heap.size 0 32 = hc dgA := row_of (heap_alloc_new w _) (by rw [hc_len, dgA_len])
  have cs : (convert 22 9 (.slice qa 1 ca)).run Tryd.prog (w.alloc (.cells (hc dgA).toArray 28)) = .ok (.string ⟨#[98]⟩) (w.alloc (.cells (hc dgA).toArray 28)) := (ha.on b1).str (P := Tryd.prog) Tryd.underlying22 Tryd.underlying5 Tryd.underlying9
  have hle := enB_len
  have hlA := dgA_len
  have OV := Lib.hid (own_on hv B3.out)
  clear hv
  clear h ha b1 b3 hz
  go_enter Tryd.func20, Tryd.ntmps20
  go_wp2_with fail
  refine (made_bk h2).mono ?_
  rintro e w1 ⟨rfl, hw1⟩
  obtain rfl := hw1.symm
  clear hw1
  go_wp2_with fail
  clear h2 cr cs ct0
  generalize (((w.alloc (.cells (hc dgA).toArray 28)).alloc (.cells en0.toArray 61)).setCells (w.heap.size + 1) 0 enB) = W3 at *
  generalize w.heap.size + 1 = h1 at *
  obtain ⟨c0, c1, c34, ctw⟩ := S3.out.cells
  have re := row_of E3.out enB_len
  have L0 := look_en1 S3.out.drew.mt
  have A3 := Lib.hid ((Below.refl W3.heap.size W3).alloc (Nat.le_refl _) (.cells #[] 62))
  have L1 := look_en1 (w := (W3.alloc (.cells #[] 62)).drew) (S3.out.on A3.out).drew.mt
  have re1 := row_of (w := (W3.alloc (.cells #[] 62)).drew) (blk_onB E3.out A3.out.drew) enB_len
  obtain ⟨d0, d1, d34, dtw⟩ := (S3.out.on A3.out).drew.cells
  have B4 := Lib.hid (B3.out.trans (A3.out.drew.mono B3.out.size))
  have S4 := Lib.hid (S3.out.on A3.out.drew)
  have E4 := Lib.hid (blk_onB E3.out A3.out.drew)
  have H4 := Lib.hid (blk_onB H3.out A3.out.drew)
  have OV4 := Lib.hid (own_on OV.out A3.out.drew)
  clear OV
  have hlen : (Builtin.len_ #[47] 3 #[.map (some T)]).run Tryd.prog (W3.alloc (.cells #[] 62)).drew = .ok (.int .i64 1) (W3.alloc (.cells #[] 62)).drew := by
    simp [Builtin.len_, run_underlying Tryd.underlying47, getMap S4.out.mt, goInt, T1]
  go_region
  all_goals
    clear c0 c1 c34 ctw re L0 L1 re1 d0 d34 dtw A3 S3 E3 H3 B3
    go_wp2_with fail
    clear hlen d1
    generalize (W3.alloc (.cells #[] 62)).drew = W4 at *
    obtain ⟨c0, c1, c34, ctw⟩ := S4.out.cells
    have re := row_of E4.out enB_len
    have U0 := upd_en1 S4.out.drew.mt
    go_region
    clear c0 c1 c34 ctw re U0
    go_wp2_with fail
    have S5 := Lib.hid (S4.out.drew.putT T2 2)
    have C5 := Lib.hid (chg_putMap (S := [p, S, T]) (b := T) (Chg.below B4.out.drew (Nat.le_refl _) _) (.inl (by simp)) T2 2)
    have E5 := Lib.hid ((heap_putMap W4.drew T 2 T2 (y := h1) (ne_mc S4.out.mt E4.out)).trans E4.out)
    have H5 := Lib.hid ((heap_putMap W4.drew T 2 T2 (y := w.heap.size) (ne_mc S4.out.mt H4.out)).trans H4.out)
    have OV5 : Hid ((putMap W4.drew T T2 2).ownsRow 0 9 1 (.slice q 1 k) 1 [.string ⟨#[97]⟩]) := own_put (own_on OV4.out ((Below.refl _ _).drew)) S4.out.mt
    clear OV4
    clear S4 B4 E4 H4
    generalize putMap W4.drew T T2 2 = W5 at *
    have KP5 : Hid (Keep p S T w.heap.size h1 enB W5) := Lib.hid ⟨S5.out.blk, H5.out, E5.out⟩
    have b6 : Below W5.heap.size W5 ((W5.alloc (.cells #[.string ⟨#[98]⟩] 9)).drew) := ((Below.refl _ _).alloc (Nat.le_refl _) (.cells #[.string ⟨#[98]⟩] 9)).drew
    have KP6 := Lib.hid (KP5.out.on b6)
    have S6 := Lib.hid (S5.out.on b6)
    have ME := ent_h1 S6.out.ms
    have S7 := Lib.hid (S6.out.putS (S1 (.slice q 1 k)) 1)
    have KP7 : Hid (Keep p S T w.heap.size h1 enB (putMap (W5.alloc (.cells #[.string ⟨#[98]⟩] 9)).drew S (S1 (.slice q 1 k)) 1)) := KP6.out.put S6.out.pS S6.out.ms
    have ST7 : Hid ((putMap (W5.alloc (.cells #[.string ⟨#[98]⟩] 9)).drew S (S1 (.slice q 1 k)) 1).heap[W5.heap.size]? = some (.cells #[.string ⟨#[98]⟩] 9 (0, 0))) := by
      show _ = _
      rw [heap_putMap _ _ _ _ (fun e => by have := lt_blk S5.out.ms; omega)]
      exact heap_alloc_new W5 (.cells #[.string ⟨#[98]⟩] 9)
    have C7 : Hid (Chg w (putMap (W5.alloc (.cells #[.string ⟨#[98]⟩] 9)).drew S (S1 (.slice q 1 k)) 1) [p, S, T]) := chg_putMap (C5.out.trans (Chg.below b6 (Nat.le_refl _) []) (by simp)) (.inl (by simp)) _ _
    have OV7 : Hid ((putMap (W5.alloc (.cells #[.string ⟨#[98]⟩] 9)).drew S (S1 (.slice q 1 k)) 1).ownsRow 0 9 1 (.slice q 1 k) 1 [.string ⟨#[97]⟩]) := own_put (own_on OV5.out b6) S6.out.ms
    clear OV5
    clear b6 S5 E5 H5 S6
    refine wp_region_held_drew (S := Keep p S T w.heap.size h1 enB) (by kernel_rfl) (by exact KP5.out.drew) (fun h0 => ?_)
    refine wpAnyH_take (i := 0) (v := ?_) (by rw [List.getElem?_toArray]; rfl) (by kernel_rfl) (by kernel_rfl) (by kernel_rfl) (by exact fun _ _ _ h => h) (Or.inl ⟨by rfl, ?_⟩) h0 ?_
    rotate_left
    · intro W hW
      go_simp
      all_goals with_reducible rfl
    try simp only [Act.put, List.setIfInBounds_toArray, List.set_cons_zero, List.set_cons_succ]
    refine wpAnyH_take (i := 1) (v := ?_) (by rw [List.getElem?_toArray]; rfl) (by kernel_rfl) (by kernel_rfl) (by kernel_rfl) (by exact fun _ _ _ h => h) (Or.inl ⟨by rfl, ?_⟩) h0 ?_
    rotate_left
    · intro W hW
      have c0 := hW.c0
      go_simp
      all_goals with_reducible rfl
    try simp only [Act.put, List.setIfInBounds_toArray, List.set_cons_zero, List.set_cons_succ]
    refine wpAnyH_take (i := 2) (v := ?_) (by rw [List.getElem?_toArray]; rfl) (by kernel_rfl) (by kernel_rfl) (by kernel_rfl) (by exact fun _ _ _ h => h) (Or.inl ⟨by rfl, ?_⟩) h0 ?_
    rotate_left
    · intro W hW
      go_simp
      all_goals with_reducible rfl
    try simp only [Act.put, List.setIfInBounds_toArray, List.set_cons_zero, List.set_cons_succ]
    refine wpAnyH_take (i := 3) (v := ?_) (by rw [List.getElem?_toArray]; rfl) (by kernel_rfl) (by kernel_rfl) (by kernel_rfl) (by exact fun _ _ _ h => h) (Or.inl ⟨by rfl, ?_⟩) h0 ?_
    rotate_left
    · intro W hW
      have c0 := hW.c0
      go_simp
      all_goals with_reducible rfl
    try simp only [Act.put, List.setIfInBounds_toArray, List.set_cons_zero, List.set_cons_succ]
    refine wpAnyH_take (i := 4) (v := ?_) (by rw [List.getElem?_toArray]; rfl) (by kernel_rfl) (by kernel_rfl) (by kernel_rfl) (by exact fun _ _ _ h => h) (Or.inl ⟨by rfl, ?_⟩) h0 ?_
    rotate_left
    · intro W hW
      have cr := hW.cr
      have hl := hlA
      go_simp
      all_goals with_reducible rfl
    try simp only [Act.put, List.setIfInBounds_toArray, List.set_cons_zero, List.set_cons_succ]
    refine wpAnyH_take (i := 5) (v := ?_) (by rw [List.getElem?_toArray]; rfl) (by kernel_rfl) (by kernel_rfl) (by kernel_rfl) (by exact fun _ _ _ h => h) (Or.inl ⟨by rfl, ?_⟩) h0 ?_
    rotate_left
    · intro W hW
      go_simp
      all_goals with_reducible rfl
    try simp only [Act.put, List.setIfInBounds_toArray, List.set_cons_zero, List.set_cons_succ]
    refine wpAnyH_take (i := 6) (v := ?_) (by rw [List.getElem?_toArray]; rfl) (by kernel_rfl) (by kernel_rfl) (by kernel_rfl) (by exact fun _ _ _ h => h) (Or.inl ⟨by rfl, ?_⟩) h0 ?_
    rotate_left
    · intro W hW
      have c32 := hW.cs enB_str
      go_simp
      all_goals with_reducible rfl
    try simp only [Act.put, List.setIfInBounds_toArray, List.set_cons_zero, List.set_cons_succ]
    refine wpAnyH_ready (rs := [7]) (by kernel_rfl) (by simp) ?_
    refine AllReadyH.cons (by rw [List.getElem?_toArray]; rfl) (fun K hK => ?_) AllReadyH.nil
    rw [if_pos (by rfl)]
    go_wp2_with fail
    refine hK.out _ _ (by exact KP6.out) (fun h7 => ?_)
    clear hK K
    try simp only [Act.put, List.setIfInBounds_toArray, List.set_cons_zero, List.set_cons_succ]
    refine wpAnyH_ready (rs := [8]) (by kernel_rfl) (by simp) ?_
    refine AllReadyH.cons (by rw [List.getElem?_toArray]; rfl) (fun K hK => ?_) AllReadyH.nil
    rw [if_pos (by rfl)]
    go_wp2_with fail
    refine hK.out _ _ (by exact KP7.out) (fun h8 => ?_)
    clear hK K
    try simp only [Act.put, List.setIfInBounds_toArray, List.set_cons_zero, List.set_cons_succ]
    refine wpAnyH_take (i := 9) (v := ?_) (by rw [List.getElem?_toArray]; rfl) (by kernel_rfl) (by kernel_rfl) (by kernel_rfl) (by exact fun _ _ _ h => h) (Or.inl ⟨by rfl, ?_⟩) h8 ?_
    rotate_left
    · intro W hW
      go_simp
      all_goals with_reducible rfl
    try simp only [Act.put, List.setIfInBounds_toArray, List.set_cons_zero, List.set_cons_succ]
    refine wpAnyH_take (i := 11) (v := ?_) (by rw [List.getElem?_toArray]; rfl) (by kernel_rfl) (by kernel_rfl) (by kernel_rfl) (by exact fun _ _ _ h => h) (Or.inl ⟨by rfl, ?_⟩) h8 ?_
    rotate_left
    · intro W hW
      go_simp
      all_goals with_reducible rfl
    try simp only [Act.put, List.setIfInBounds_toArray, List.set_cons_zero, List.set_cons_succ]
    refine wpAnyH_ready (rs := [10]) (by kernel_rfl) (by simp) ?_
    refine AllReadyH.cons (by rw [List.getElem?_toArray]; rfl) (fun K hK => ?_) AllReadyH.nil
    rw [if_pos (by rfl)]
    refine wp_append_row _ _ rfl Tryd.underlying51 hi.out hz0.out hz1.out hz2.out rfl OV7.out (news := [.string ⟨#[98]⟩]) (m := 1) ?rd ?b1 ?b2 ?_
    case rd =>
      refine Src.ofSlice _ Tryd.underlying51 _ _ _ _ rfl (fun j u hu => ?_) (fun u hu => ?_)
      · rw [addr_add, Nat.zero_add]
        rw [Joins.cell_of_block ST7.out]
        simpa using hu
      · obtain rfl := List.mem_singleton.1 hu
        rfl
    case b1 => unfold maxLen; omega
    case b2 => omega
    intro q2 k2 w2 own2 grow2' fr2'
    have grow2 : (putMap (W5.alloc (.cells #[.string ⟨#[98]⟩] 9)).drew S (S1 (.slice q 1 k)) 1).grownBy w2 (Value.slice q 1 k).ownBlock := grow2'
    have fr2 : (Value.slice q2 2 k2).ownBlock = (Value.slice q 1 k).ownBlock ∨ (Value.slice q2 2 k2).ownBlock = some (putMap (W5.alloc (.cells #[.string ⟨#[98]⟩] 9)).drew S (S1 (.slice q 1 k)) 1).heap.size := fr2'
    have G2 := Lib.hid grow2
    have O2 := Lib.hid own2
    have F2 := Lib.hid fr2
    have KP2 := Lib.hid (KP7.out.grown grow2 (own_ne OV7.out KP7.out.1 (by decide)) (own_ne OV7.out KP7.out.2.1 (by decide)) (own_ne OV7.out KP7.out.2.2 (by decide)))
    have S8 := Lib.hid (S7.out.grown grow2 (own_ne OV7.out S7.out.blk (by decide)) (own_neM OV7.out S7.out.ms) (own_neM OV7.out S7.out.mt))
    have EF := ents_h (u := .slice q2 2 k2) S8.out.ms
    clear own2 grow2 fr2 grow2' fr2'
    refine hK.out _ _ (by exact KP2.out) (fun h10 => ?_)
    clear hK K
    try simp only [Act.put, List.setIfInBounds_toArray, List.set_cons_zero, List.set_cons_succ]
    refine wpAnyH_ready (rs := [12]) (by kernel_rfl) (by simp) ?_
    refine AllReadyH.cons (by rw [List.getElem?_toArray]; rfl) (fun K hK => ?_) AllReadyH.nil
    rw [if_pos (by rfl)]
    go_wp2_with fail
    refine hK.out _ _ (by exact KP2.out.put S8.out.pS S8.out.ms) (fun h12 => ?_)
    clear hK K
    try simp only [Act.put, List.setIfInBounds_toArray, List.set_cons_zero, List.set_cons_succ]
    refine wpAnyH_done (by kernel_rfl) ?_ _
    have S9 := Lib.hid (S8.out.putS (S1 (.slice q2 2 k2)) 1)
    have KP9 := Lib.hid (KP2.out.put (x := S1 (.slice q2 2 k2)) (c := 1) S8.out.pS S8.out.ms)
    have O9 : Hid ((putMap w2 S (S1 (.slice q2 2 k2)) 1).ownsRow 0 9 1 (.slice q2 2 k2) 2 [.string ⟨#[97]⟩, .string ⟨#[98]⟩]) := own_put O2.out S8.out.ms
    have C9 : Hid (Chg w (putMap w2 S (S1 (.slice q2 2 k2)) 1) ([p, S, T] ++ (Value.slice q 1 k).ownBlock.toList)) := chg_putMap (C7.out.growB G2.out) (.inl (by simp)) _ _
    have HWZ : Hid (w.heap.size ≤ W5.heap.size) := C5.out.size
    have F9 : Hid (∀ g, (Value.slice q2 2 k2).ownBlock = some g → (Value.slice q 1 k).ownBlock = some g ∨ w.heap.size ≤ g) := fun g hg => by
      rcases F2.out with e | e
      · rw [e] at hg; exact .inl hg
      · rw [e] at hg
        simp at hg
        have := HWZ.out
        right; omega
    clear S8 KP2 O2 C7 G2 EF ME S7 KP7 ST7 F2 HWZ C5
    go_wp2_with fail
    generalize putMap w2 S (S1 (.slice q2 2 k2)) 1 = W9 at *
    obtain ⟨c0, c1, c34, ctw⟩ := S9.out.cells
    have cr := KP9.out.cr
    have LH := look_h S9.out.drew.ms
    have TH := S9.out.drew.there2
    have M9 := Lib.hid (S9.out.drew.mid dgA_len)
    obtain ⟨x34, f34⟩ := S9.out.drew.at34 (F := dgA) dgA_len
    have CB := Lib.hid (S9.out.drew.clash dgA_len)
    have CC : Hid (Chg w ((W9.drew.setCells p 2 (hc dgA)).setCell ⟨p, 34, none⟩ (.bool true)) ([p, S, T] ++ (Value.slice q 1 k).ownBlock.toList)) := (chg_setCells2 (.inl (by simp)) (hc dgA) 2 C9.out.drew).setCell (.inl (by simp)) _
    have OC := Lib.hid (own_clash (F := dgA) O9.out S9.out)
    go_region
    clear c0 c1 ctw LH
    go_wp2_with fail
    go_ret
    exact ⟨rfl, CC.out, q2, k2, CB.out, OC.out⟩
end Go.Proofs.YtimcjnocmbbahaaDoor
