/-
  The way up from the leaf of one pair, reckoned: part 1.
-/
import Derived.Test.YtjgfjmkfcippcaaDoorSmChain
namespace Go.Proofs.YtjgfjmkfcippcaaDoor
open Go.RowKit
set_option maxRecDepth 100000
theorem seg_4 : eqN (upN k1N 256 64 16 rd4) rd5 = true := by decide +kernel
theorem seg_5 : eqN (upN k1N 256 80 16 rd5) rd6 = true := by decide +kernel
theorem seg_6 : eqN (upN k1N 256 96 16 rd6) rd7 = true := by decide +kernel
theorem seg_7 : eqN (upN k1N 256 112 16 rd7) rd8 = true := by decide +kernel
end Go.Proofs.YtjgfjmkfcippcaaDoor
