/-
  The digest of abc, reckoned.
-/
import Derived.Test.YtlmpmnngheifkaaDoorShaPad
namespace Go.Proofs.YtlmpmnngheifkaaDoor
open Go.RowKit
set_option maxRecDepth 100000
set_option maxHeartbeats 4000000 in
theorem abc_0 : (sha [97, 98, 99]).getD 0 0 = 186 := by kernel_rfl
set_option maxHeartbeats 4000000 in
theorem abc_1 : (sha [97, 98, 99]).getD 1 0 = 120 := by kernel_rfl
set_option maxHeartbeats 4000000 in
theorem abc_31 : (sha [97, 98, 99]).getD 31 0 = 173 := by kernel_rfl
end Go.Proofs.YtlmpmnngheifkaaDoor
