/-
  The writer's Wide, where there is room.
-/
import Derived.Test.YtigpiejjblfenaaCodecU
import Derived.Test.YtigpiejjblfenaaBytes
namespace Go.Proofs.Ytigpiejjblfenaa
set_option maxRecDepth 100000
open Go.RowKit

/-- A wide's limbs. -/
structure W4 where
  a : Int
  b : Int
  c : Int
  d : Int
def W4.bytes (x : W4) : List Int := bys (V x.a x.b x.c x.d) 32
def w0 : W4 := ⟨0, 0, 0, 0⟩
theorem W4.len (x : W4) : x.bytes.length = 32 := by simp [W4.bytes, bys]
/-- The slice v holds these wides, and lies in no block of S. -/
def RdW (w : World) (v : Value) (ws : List W4) (S : List Nat) : Prop := ∃ q c, v = .slice q ws.length c ∧ (ws = [] ∨ ∃ b off, q = some ⟨b, off, none⟩ ∧ b ∉ S ∧ ∀ i, i < ws.length → D4 (ws.getD i w0).a (ws.getD i w0).b (ws.getD i w0).c (ws.getD i w0).d ∧
  w.cell? ⟨b, off + i * 4, none⟩ = some (.int .u64 (ws.getD i w0).a) ∧ w.cell? ⟨b, off + i * 4 + 1, none⟩ = some (.int .u64 (ws.getD i w0).b) ∧ w.cell? ⟨b, off + i * 4 + 2, none⟩ = some (.int .u64 (ws.getD i w0).c) ∧ w.cell? ⟨b, off + i * 4 + 3, none⟩ = some (.int .u64 (ws.getD i w0).d))
theorem RdW.at {w : World} {q : Option Addr} {n c : Nat} {ws : List W4} {S : List Nat} (h : RdW w (.slice q n c) ws S) {i : Nat} (hi : i < ws.length) :
    ∃ b off, n = ws.length ∧ q = some ⟨b, off, none⟩ ∧ b ∉ S ∧ D4 (ws.getD i w0).a (ws.getD i w0).b (ws.getD i w0).c (ws.getD i w0).d ∧
  w.cell? ⟨b, off + i * 4, none⟩ = some (.int .u64 (ws.getD i w0).a) ∧ w.cell? ⟨b, off + i * 4 + 1, none⟩ = some (.int .u64 (ws.getD i w0).b) ∧ w.cell? ⟨b, off + i * 4 + 2, none⟩ = some (.int .u64 (ws.getD i w0).c) ∧ w.cell? ⟨b, off + i * 4 + 3, none⟩ = some (.int .u64 (ws.getD i w0).d) := by
  obtain ⟨q', c', e, rfl | ⟨b, off, rfl, hb, hx⟩⟩ := h
  · simp at hi
  · simp only [Value.slice.injEq] at e
    exact ⟨b, off, e.2.1, e.1, hb, hx i hi⟩
def wides (ws : List W4) : List Int := ws.flatMap W4.bytes
theorem wides_take {ws : List W4} {i : Nat} (hi : i < ws.length) : wides (ws.take (i + 1)) = wides (ws.take i) ++ (ws.getD i w0).bytes := by
  have e : ws.take (i + 1) = ws.take i ++ [ws.getD i w0] := by
    rw [List.take_add_one]
    simp [List.getD, hi]
  rw [e, wides, List.flatMap_append]
  simp [wides]
theorem wides_len : ∀ ws : List W4, (wides ws).length = 32 * ws.length
  | [] => rfl
  | n :: ws => by
    have := wides_len ws
    simp only [wides, List.flatMap_cons, List.length_append, W4.len, List.length_cons] at this ⊢
    omega
theorem row32_rd {w : World} {b : Nat} {N : Int} (h : Row32 w b N) : Rd w (.slice (some ⟨b, 0, none⟩) 32 32) (bys N 32) := by
  have hl : (bys N 32).length = 32 := by simp [bys]
  refine ⟨some ⟨b, 0, none⟩, 32, by rw [hl], .inr ⟨b, 0, rfl, fun i hi => ?_⟩⟩
  rw [Nat.zero_add]
  exact h.cell i (by omega)
end Go.Proofs.Ytigpiejjblfenaa
