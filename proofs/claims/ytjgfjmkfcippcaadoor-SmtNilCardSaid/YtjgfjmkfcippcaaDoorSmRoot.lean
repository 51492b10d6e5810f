/-
  The root of one pair is not zero.
-/
import Derived.Test.YtjgfjmkfcippcaaDoorSmSeg0
import Derived.Test.YtjgfjmkfcippcaaDoorSmSeg1
import Derived.Test.YtjgfjmkfcippcaaDoorSmSeg2
import Derived.Test.YtjgfjmkfcippcaaDoorSmSeg3
import Derived.Test.YtjgfjmkfcippcaaDoorSmNd
namespace Go.Proofs.YtjgfjmkfcippcaaDoor
open Go.RowKit
set_option maxRecDepth 100000
theorem k1N_to : castL k1N = K1 := by rfl
theorem v2N_to : castL v2N = V2 := by rfl
theorem k1N_by : ByN k1N := by
  intro x hx
  simp only [k1N, List.mem_cons, List.not_mem_nil, or_false, or_self] at hx
  omega
theorem v2N_by : ByN v2N := by
  intro x hx
  simp only [v2N, List.mem_cons, List.not_mem_nil, or_false, or_self] at hx
  omega
theorem K1_bytes : Bytes K1 := by
  intro x hx
  simp only [K1, List.mem_cons, List.not_mem_nil, or_false, or_self] at hx
  omega
theorem V2_bytes : Bytes V2 := by
  intro x hx
  simp only [V2, List.mem_cons, List.not_mem_nil, or_false, or_self] at hx
  omega
theorem rd_leaf : lfH K1 V2 = castL rd0 ∧ ByN rd0 := by
  have h := lfN_to k1N_by v2N_by
  have b := lfN_by k1N v2N
  rw [eqN_iff.1 seg_leaf] at h b
  rw [← k1N_to, ← v2N_to]
  exact ⟨h, b⟩
/-- The root of the pair K1, V2. -/
def rtK : List Int := upH K1 256 (lfH K1 V2) 256
theorem rd_root : rtK = castL rd16 := by
  have h0 : upH (castL k1N) 256 (lfH K1 V2) 0 = castL rd0 ∧ ByN rd0 := rd_leaf
  have h := up_more h0 seg_0
  have h := up_more (k := 16) h seg_1
  have h := up_more (k := 32) h seg_2
  have h := up_more (k := 48) h seg_3
  have h := up_more (k := 64) h seg_4
  have h := up_more (k := 80) h seg_5
  have h := up_more (k := 96) h seg_6
  have h := up_more (k := 112) h seg_7
  have h := up_more (k := 128) h seg_8
  have h := up_more (k := 144) h seg_9
  have h := up_more (k := 160) h seg_10
  have h := up_more (k := 176) h seg_11
  have h := up_more (k := 192) h seg_12
  have h := up_more (k := 208) h seg_13
  have h := up_more (k := 224) h seg_14
  have h := up_more (k := 240) h seg_15
  have h1 := h.1
  rw [k1N_to] at h1
  exact h1
theorem rtK_len : rtK.length = 32 := upH_len _ _ (lfH_len _ _) _
theorem rtK_bytes : Bytes rtK := upH_bytes _ _ (lfH_bytes _ _) _
theorem rtK_some : (rtK == zero32) = false := by
  rw [rd_root, ← z32N_to]
  simp only [beq_eq_false_iff_ne, ne_eq]
  intro h
  have := castL_inj h
  simp [rd16, z32N] at this
theorem lfK_some : lfH K1 V2 = sha (frm (sn leafS) [K1, V2]) := lfH_some _ (by simp [V2, zero32])
end Go.Proofs.YtjgfjmkfcippcaaDoor
