/-
  The way up from the leaf of one pair, reckoned: part 3.
-/
import Derived.Test.YtjgfjmkfcippcaaDoorSmChain
namespace Go.Proofs.YtjgfjmkfcippcaaDoor
open Go.RowKit
set_option maxRecDepth 100000
theorem seg_12 : eqN (upN k1N 256 192 16 rd12) rd13 = true := by decide +kernel
theorem seg_13 : eqN (upN k1N 256 208 16 rd13) rd14 = true := by decide +kernel
theorem seg_14 : eqN (upN k1N 256 224 16 rd14) rd15 = true := by decide +kernel
theorem seg_15 : eqN (upN k1N 256 240 16 rd15) rd16 = true := by decide +kernel
end Go.Proofs.YtjgfjmkfcippcaaDoor
