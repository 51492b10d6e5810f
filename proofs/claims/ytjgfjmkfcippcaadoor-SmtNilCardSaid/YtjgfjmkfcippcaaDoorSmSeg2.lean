/-
  The way up from the leaf of one pair, reckoned: part 2.
-/
import Derived.Test.YtjgfjmkfcippcaaDoorSmChain
namespace Go.Proofs.YtjgfjmkfcippcaaDoor
open Go.RowKit
set_option maxRecDepth 100000
theorem seg_8 : eqN (upN k1N 256 128 16 rd8) rd9 = true := by decide +kernel
theorem seg_9 : eqN (upN k1N 256 144 16 rd9) rd10 = true := by decide +kernel
theorem seg_10 : eqN (upN k1N 256 160 16 rd10) rd11 = true := by decide +kernel
theorem seg_11 : eqN (upN k1N 256 176 16 rd11) rd12 = true := by decide +kernel
end Go.Proofs.YtjgfjmkfcippcaaDoor
