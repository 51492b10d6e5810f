/-
  The way up from the leaf of one pair, reckoned: part 0.
-/
import Derived.Test.YtjgfjmkfcippcaaDoorSmChain
namespace Go.Proofs.YtjgfjmkfcippcaaDoor
open Go.RowKit
set_option maxRecDepth 100000
theorem seg_leaf : eqN (lfN k1N v2N) rd0 = true := by decide +kernel
theorem seg_0 : eqN (upN k1N 256 0 16 rd0) rd1 = true := by decide +kernel
theorem seg_1 : eqN (upN k1N 256 16 16 rd1) rd2 = true := by decide +kernel
theorem seg_2 : eqN (upN k1N 256 32 16 rd2) rd3 = true := by decide +kernel
theorem seg_3 : eqN (upN k1N 256 48 16 rd3) rd4 = true := by decide +kernel
end Go.Proofs.YtjgfjmkfcippcaaDoor
