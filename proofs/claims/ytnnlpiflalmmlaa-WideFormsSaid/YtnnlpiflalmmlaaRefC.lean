/-
  The walks of package basculeref01: Add, Sub, less, Low, Of.
-/
import Derived.Test.YtnnlpiflalmmlaaRef
namespace Go.Proofs.Ytnnlpiflalmmlaa
open Go.RowKit

theorem add8 {x0 x1 x2 x3 x4 x5 x6 x7 y0 y1 y2 y3 y4 y5 y6 y7 z0 z1 z2 z3 z4 z5 z6 z7 c0 c1 c2 c3 c4 c5 c6 c7 c8 : Int} (e0 : c0 + x0 + y0 = z0 + 4294967296 * c1) (e1 : c1 + x1 + y1 = z1 + 4294967296 * c2) (e2 : c2 + x2 + y2 = z2 + 4294967296 * c3) (e3 : c3 + x3 + y3 = z3 + 4294967296 * c4) (e4 : c4 + x4 + y4 = z4 + 4294967296 * c5) (e5 : c5 + x5 + y5 = z5 + 4294967296 * c6) (e6 : c6 + x6 + y6 = z6 + 4294967296 * c7) (e7 : c7 + x7 + y7 = z7 + 4294967296 * c8) : V8 z0 z1 z2 z3 z4 z5 z6 z7 + M * c8 = V8 x0 x1 x2 x3 x4 x5 x6 x7 + V8 y0 y1 y2 y3 y4 y5 y6 y7 + c0 := by
  unfold V8 M; unfold B; omega
theorem sub8 {x0 x1 x2 x3 x4 x5 x6 x7 y0 y1 y2 y3 y4 y5 y6 y7 z0 z1 z2 z3 z4 z5 z6 z7 c0 c1 c2 c3 c4 c5 c6 c7 c8 : Int} (e0 : x0 + 4294967296 - y0 - c0 = z0 + 4294967296 * (1 - c1)) (e1 : x1 + 4294967296 - y1 - c1 = z1 + 4294967296 * (1 - c2)) (e2 : x2 + 4294967296 - y2 - c2 = z2 + 4294967296 * (1 - c3)) (e3 : x3 + 4294967296 - y3 - c3 = z3 + 4294967296 * (1 - c4)) (e4 : x4 + 4294967296 - y4 - c4 = z4 + 4294967296 * (1 - c5)) (e5 : x5 + 4294967296 - y5 - c5 = z5 + 4294967296 * (1 - c6)) (e6 : x6 + 4294967296 - y6 - c6 = z6 + 4294967296 * (1 - c7)) (e7 : x7 + 4294967296 - y7 - c7 = z7 + 4294967296 * (1 - c8)) : V8 z0 z1 z2 z3 z4 z5 z6 z7 = V8 x0 x1 x2 x3 x4 x5 x6 x7 - V8 y0 y1 y2 y3 y4 y5 y6 y7 - c0 + M * c8 := by
  unfold V8 M; unfold B; omega

theorem size_setCell (w : World) (a : Addr) (v : Value) : (w.setCell a v).heap.size = w.heap.size := by simp [World.setCell]

end Go.Proofs.Ytnnlpiflalmmlaa
