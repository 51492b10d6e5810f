/-
  Package book: no book, and one that nobody made.
-/
import Derived.Test.YtimcjnocmbbahaaDoorBookKnows
import Derived.Test.YtimcjnocmbbahaaDoorFrameW
namespace Go.Proofs.YtimcjnocmbbahaaDoor
open Go.RowKit
set_option maxRecDepth 100000

theorem rdc_of_rwK {w : World} {b : Nat} {T : TypeId} {xs : List Int} (h : RwK .u8 w b xs.length T (fun i => xs.getD i 0)) : RdC w (.slice (some ⟨b, 0, none⟩) xs.length xs.length) xs :=
  ⟨_, _, rfl, Nat.le_refl _, .inr ⟨b, 0, rfl, fun i hi => by rw [Nat.zero_add]; exact h.cell i hi⟩⟩
/-- No book, or one that nobody made. -/
def NilK (w : World) (v : Value) : Prop := v = .pointer none ∨ ∃ p, v = .pointer (some ⟨p, 0, none⟩) ∧ w.cell? ⟨p, 0, none⟩ = some (.map none)
theorem NilK.on {w w' : World} {v : Value} (h : NilK w v) (hb : Below w.heap.size w w') : NilK w' v := by
  rcases h with rfl | ⟨p, rfl, hc⟩
  · exact .inl rfl
  · exact .inr ⟨p, rfl, by rw [hb.cell (lt_of_cell hc)]; exact hc⟩
theorem made_nilK {w : World} {v : Value} (h : NilK w v) :
    Calls Tryd.prog 25 #[v] w fun e w' => e = .returned (.bool false) ∧ w' = w := by
  have hne : (binOp BinOp.neq 46 (.map none) (.map none)).run Tryd.prog w = .ok (.bool false) w := by kernel_rfl
  rcases h with rfl | ⟨p, rfl, hc⟩
  all_goals
    go_enter Tryd.func25, Tryd.ntmps25
    go_wp2_with fail
    go_ret
    exact ⟨rfl, rfl⟩
theorem Len_nilK {w : World} {v : Value} (h : NilK w v) :
    Calls Tryd.prog 21 #[v] w fun e w' => e = .returned (.int .i64 0) ∧ w' = w := by
  go_enter Tryd.func21, Tryd.ntmps21
  go_wp2_with fail
  refine (made_nilK h).mono ?_
  rintro e w1 ⟨rfl, rfl⟩
  go_wp2_with fail
  go_ret
  exact ⟨rfl, rfl⟩
theorem Clash_nilK {w : World} {v : Value} (h : NilK w v) :
    Calls Tryd.prog 12 #[v] w fun e w' => e = .returned (.tuple #[.slice none 0 0, .slice none 0 0, .bool false]) ∧ w' = w := by
  go_enter Tryd.func12, Tryd.ntmps12
  go_wp2_with fail
  refine (made_nilK h).mono ?_
  rintro e w1 ⟨rfl, rfl⟩
  go_wp2_with fail
  refine bodyPost_ret (v := .tuple #[.slice none 0 0, .slice none 0 0, .bool false]) (by simp [results, Tryd.results12, go_sem]) rfl ⟨rfl, rfl⟩
theorem Put_nilK {w : World} {v a : Value} {F : List Int} (h : NilK w v) :
    Calls Tryd.prog 20 #[v, .agg (hc F).toArray, a] w fun e w' => e = .returned (.int .i64 1) ∧ Below w.heap.size w w' := by
  go_enter Tryd.func20, Tryd.ntmps20
  go_wp2_with fail
  refine (made_nilK (h.on ?bb)).mono ?_
  case bb => repeat (first | with_reducible exact Below.refl _ _ | with_reducible refine Below.setCell ?_ (by simp; try omega) _ | with_reducible refine Below.alloc ?_ (by simp; try omega) _)
  rintro e w1 ⟨rfl, rfl⟩
  go_wp2_with fail
  go_ret
  refine ⟨rfl, ?_⟩
  repeat (first | with_reducible exact Below.refl _ _ | with_reducible refine Below.setCell ?_ (by simp; try omega) _ | with_reducible refine Below.alloc ?_ (by simp; try omega) _)
theorem Seek_nilK {w : World} {v : Value} {F : List Int} (h : Hid (NilK w v)) :
    Calls Tryd.prog 11 #[v, .agg (hc F).toArray] w fun e w' => e = .returned (.tuple #[.slice none 0 0, .bool false]) ∧ Below w.heap.size w w' := by
  go_enter Tryd.func11, Tryd.ntmps11
  go_wp2_with fail
  refine wp_region_held_drew (S := fun _ => True) (by kernel_rfl) (trivial) (fun h0 => ?_)
  refine wpAnyH_take (i := 0) (v := ?_) (by rw [List.getElem?_toArray]; rfl) (by kernel_rfl) (by kernel_rfl) (by kernel_rfl) (by exact fun _ _ _ h => h) (Or.inl ⟨by rfl, ?_⟩) h0 ?_
  rotate_left
  · intro W hW
    go_simp
    all_goals with_reducible rfl
  try simp only [Act.put, List.setIfInBounds_toArray, List.set_cons_zero, List.set_cons_succ]
  refine wpAnyH_ready (rs := [1]) (by kernel_rfl) (by simp) ?_
  refine AllReadyH.cons (by rw [List.getElem?_toArray]; rfl) (fun K hK => ?_) AllReadyH.nil
  go_wp2_with fail
  refine (made_nilK (h.out.on ((Below.refl w.heap.size w).alloc (Nat.le_refl _) _).drew)).mono ?_
  rintro e w2 ⟨rfl, hw2⟩
  obtain rfl := hw2.symm
  clear hw2
  go_wp2_with fail
  refine hK.out _ _ (trivial) (fun h1 => ?_)
  clear hK K
  try simp only [Act.put, List.setIfInBounds_toArray, List.set_cons_zero, List.set_cons_succ]
  refine wpAnyH_take (i := 2) (v := ?_) (by rw [List.getElem?_toArray]; rfl) (by kernel_rfl) (by kernel_rfl) (by kernel_rfl) (by exact fun _ _ _ h => h) (Or.inl ⟨by rfl, ?_⟩) h1 ?_
  rotate_left
  · intro W hW
    go_simp
    all_goals with_reducible rfl
  try simp only [Act.put, List.setIfInBounds_toArray, List.set_cons_zero, List.set_cons_succ]
  refine wpAnyH_take (i := 3) (v := ?_) (by rw [List.getElem?_toArray]; rfl) (by kernel_rfl) (by kernel_rfl) (by kernel_rfl) (by exact fun _ _ _ h => h) (Or.inl ⟨by rfl, ?_⟩) h1 ?_
  rotate_left
  · intro W hW
    go_simp
    all_goals with_reducible rfl
  try simp only [Act.put, List.setIfInBounds_toArray, List.set_cons_zero, List.set_cons_succ]
  refine wpAnyH_take (i := 4) (v := undef) (by rw [List.getElem?_toArray]; rfl) (by kernel_rfl) (by kernel_rfl) (by kernel_rfl) (by exact fun _ _ _ h => h) (Or.inr ⟨by rfl, rfl⟩) h1 ?_
  try simp only [Act.put, List.setIfInBounds_toArray, List.set_cons_zero, List.set_cons_succ]
  refine wpAnyH_take (i := 5) (v := undef) (by rw [List.getElem?_toArray]; rfl) (by kernel_rfl) (by kernel_rfl) (by kernel_rfl) (by exact fun _ _ _ h => h) (Or.inr ⟨by rfl, rfl⟩) h1 ?_
  try simp only [Act.put, List.setIfInBounds_toArray, List.set_cons_zero, List.set_cons_succ]
  refine wpAnyH_take (i := 6) (v := undef) (by rw [List.getElem?_toArray]; rfl) (by kernel_rfl) (by kernel_rfl) (by kernel_rfl) (by exact fun _ _ _ h => h) (Or.inr ⟨by rfl, rfl⟩) h1 ?_
  try simp only [Act.put, List.setIfInBounds_toArray, List.set_cons_zero, List.set_cons_succ]
  refine wpAnyH_take (i := 7) (v := undef) (by rw [List.getElem?_toArray]; rfl) (by kernel_rfl) (by kernel_rfl) (by kernel_rfl) (by exact fun _ _ _ h => h) (Or.inr ⟨by rfl, rfl⟩) h1 ?_
  try simp only [Act.put, List.setIfInBounds_toArray, List.set_cons_zero, List.set_cons_succ]
  refine wpAnyH_take (i := 8) (v := undef) (by rw [List.getElem?_toArray]; rfl) (by kernel_rfl) (by kernel_rfl) (by kernel_rfl) (by exact fun _ _ _ h => h) (Or.inr ⟨by rfl, rfl⟩) h1 ?_
  try simp only [Act.put, List.setIfInBounds_toArray, List.set_cons_zero, List.set_cons_succ]
  refine wpAnyH_take (i := 9) (v := undef) (by rw [List.getElem?_toArray]; rfl) (by kernel_rfl) (by kernel_rfl) (by kernel_rfl) (by exact fun _ _ _ h => h) (Or.inr ⟨by rfl, rfl⟩) h1 ?_
  try simp only [Act.put, List.setIfInBounds_toArray, List.set_cons_zero, List.set_cons_succ]
  refine wpAnyH_take (i := 10) (v := undef) (by rw [List.getElem?_toArray]; rfl) (by kernel_rfl) (by kernel_rfl) (by kernel_rfl) (by exact fun _ _ _ h => h) (Or.inr ⟨by rfl, rfl⟩) h1 ?_
  try simp only [Act.put, List.setIfInBounds_toArray, List.set_cons_zero, List.set_cons_succ]
  refine wpAnyH_take (i := 11) (v := undef) (by rw [List.getElem?_toArray]; rfl) (by kernel_rfl) (by kernel_rfl) (by kernel_rfl) (by exact fun _ _ _ h => h) (Or.inr ⟨by rfl, rfl⟩) h1 ?_
  try simp only [Act.put, List.setIfInBounds_toArray, List.set_cons_zero, List.set_cons_succ]
  refine wpAnyH_take (i := 12) (v := ?_) (by rw [List.getElem?_toArray]; rfl) (by kernel_rfl) (by kernel_rfl) (by kernel_rfl) (by exact fun _ _ _ h => h) (Or.inl ⟨by rfl, ?_⟩) h1 ?_
  rotate_left
  · intro W hW
    go_simp
    all_goals with_reducible rfl
  try simp only [Act.put, List.setIfInBounds_toArray, List.set_cons_zero, List.set_cons_succ]
  refine wpAnyH_done (by kernel_rfl) ?_ _
  go_wp2_with fail
  refine bodyPost_ret (v := .tuple #[.slice none 0 0, .bool false]) (by simp [results, Tryd.results11, go_sem]) rfl ⟨rfl, ?_⟩
  exact ((Below.refl w.heap.size w).alloc (Nat.le_refl _) _).drew

set_option maxHeartbeats 2000000 in
theorem Sum_nilK {w : World} {v a : Value} {xs : List Int} (h : NilK w v) (ha : RdC w a xs) (bx : Bytes xs) (hT : Tbl w) :
    Calls Tryd.prog 13 #[v, a] w fun e w' => e = .returned (.agg (hc (sha xs)).toArray) ∧ Below w.heap.size w w' := by
  have b1 : Below w.heap.size w (w.alloc (.cells (hc zero32).toArray 28)) := (Below.refl _ _).alloc (Nat.le_refl _) _
  have h1 := Lib.hid (h.on b1)
  have R1 := Lib.hid (rdc_onK ha b1)
  have T1' := Lib.hid (hT.on b1 hT.pos)
  have Z1 := Lib.hid (HashAt.new w zero32)
  have B1 := Lib.hid b1
  clear h ha hT b1
  go_enter Tryd.func13, Tryd.ntmps13
  go_wp2_with fail
  refine (Sum_any R1.out bx T1'.out).mono ?_
  rintro e w2 ⟨rfl, hb2⟩
  have hlF := sha_len xs
  obtain ⟨F, hF⟩ : ∃ F, sha xs = F := ⟨_, rfl⟩
  rw [hF] at hlF ⊢
  have HF := Lib.hid hF
  clear hF
  have lF := hc_len F
  have b3 : Below w2.heap.size w2 ((w2.alloc (.cells (hc zero32).toArray 28)).setCells w2.heap.size 0 (hc F)) := set_below
  have X3 := Lib.hid ((HashAt.new w2 zero32).put zero32_len hlF)
  have ct := (HashAt.new w2 zero32).there zero32_len
  have b13 := hb2.trans (b3.mono hb2.size)
  have h3 := Lib.hid (h1.out.on b13)
  have Z3 := Lib.hid (Z1.out.on b13)
  have B3 := Lib.hid (B1.out.trans (b13.mono B1.out.size))
  have cr := X3.out.row hlF
  clear h1 R1 T1' Z1 B1 hb2 b3 b13
  go_wp2_with fail
  clear ct
  generalize (w2.alloc (.cells (hc zero32).toArray 28)).setCells w2.heap.size 0 (hc F) = W3 at *
  generalize w2.heap.size = h2 at *
  clear cr
  refine (Put_nilK h3.out).mono ?_
  rintro e w4 ⟨rfl, hb4⟩
  have X4 := Lib.hid (X3.out.on hb4)
  have Z4 := Lib.hid (Z3.out.on hb4)
  have B4 := Lib.hid (B3.out.trans (hb4.mono B3.out.size))
  clear hb4 X3 Z3 B3 h3
  have cr := X4.out.row hlF
  have ct := Z4.out.there zero32_len
  have cf := (Z4.out.put zero32_len hlF).row hlF
  go_wp2_with fail
  refine bodyPost_ret (v := .agg (hc F).toArray) (by simp [results, Tryd.results13, go_sem, cf, hlF]) rfl ⟨by rw [HF.out], below_setCells' _ (Nat.le_refl _) _ _ B4.out⟩

set_option maxHeartbeats 2000000 in
theorem Tagged_nilK {w : World} {v a : Value} {s t : ByteArray} {L : List (List Int)} (h : NilK w v) (hL : RdL w a L []) (hT : Tbl w) (hs : s.size ≤ maxLen) (hst : cut255 s = t) (hn : (frm (sn t) L).length ≤ 140737488355328) (hx : Bytes (frm (sn t) L)) :
    Calls Tryd.prog 16 #[v, .string s, a] w fun e w' => e = .returned (.agg (hc (sha (frm (sn t) L))).toArray) ∧ Below w.heap.size w w' := by
  have b1 : Below w.heap.size w (w.alloc (.cells (hc zero32).toArray 28)) := (Below.refl _ _).alloc (Nat.le_refl _) _
  have h1 := Lib.hid (h.on b1)
  have kf := Frame_cut (hL.chg (Chg.below b1 (Nat.le_refl _) [])) hs hst hn
  rw [show (w.alloc (.cells (hc zero32).toArray 28)).heap.size = w.heap.size + 1 by simp] at kf
  have KF := Lib.hid kf
  clear kf
  have T1' := Lib.hid (hT.on b1 hT.pos)
  have Z1 := Lib.hid (HashAt.new w zero32)
  have B1 := Lib.hid b1
  have HX := Lib.hid hx
  clear h hL hT b1 hs hst hn hx
  generalize frm (sn t) L = X at *
  go_enter Tryd.func16, Tryd.ntmps16
  go_wp2_with fail
  refine KF.out.mono ?_
  rintro e w2 ⟨rfl, hr2, hb2'⟩
  have hb2 : Below (w.alloc (.cells (hc zero32).toArray 28)).heap.size (w.alloc (.cells (hc zero32).toArray 28)) w2 := by
    rw [show (w.alloc (.cells (hc zero32).toArray 28)).heap.size = w.heap.size + 1 by simp]; exact hb2'
  clear hb2'
  have h2 := Lib.hid (h1.out.on hb2)
  have T2 := Lib.hid (T1'.out.on hb2 T1'.out.pos)
  have Z2 := Lib.hid (Z1.out.on hb2)
  have B2 := Lib.hid (B1.out.trans (hb2.mono B1.out.size))
  have R2 := Lib.hid (rdc_of_rwK hr2)
  clear hr2 hb2 h1 T1' Z1 B1 KF
  go_wp2_with fail
  refine (Sum_nilK h2.out R2.out HX.out T2.out).mono ?_
  rintro e w3 ⟨rfl, hb3⟩
  have hlF := sha_len X
  obtain ⟨F, hF⟩ : ∃ F, sha X = F := ⟨_, rfl⟩
  rw [hF] at hlF ⊢
  have HF := Lib.hid hF
  clear hF
  have lF := hc_len F
  have Z4 := Lib.hid (Z2.out.on hb3)
  have B4 := Lib.hid (B2.out.trans (hb3.mono B2.out.size))
  clear hb3 Z2 B2 h2 T2 R2
  have ct := Z4.out.there zero32_len
  have cf := (Z4.out.put zero32_len hlF).row hlF
  go_wp2_with fail
  refine bodyPost_ret (v := .agg (hc F).toArray) (by simp [results, Tryd.results16, go_sem, cf, hlF]) rfl ⟨by rw [HF.out], below_setCells' _ (Nat.le_refl _) _ _ B4.out⟩
end Go.Proofs.YtimcjnocmbbahaaDoor
