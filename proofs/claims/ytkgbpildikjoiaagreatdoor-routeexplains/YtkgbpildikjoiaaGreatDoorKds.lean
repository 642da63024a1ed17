/- The package's Kinds, Holds, Covers and Meets at right patterns: the kinds of which the pattern holds, as bits, and what follows of them; the conditions: the patterns' trees lie in memory and are right. -/
import Derived.Test.YtkgbpildikjoiaaGreatDoorHold
namespace Go.Proofs.YtkgbpildikjoiaaGreatDoor
open Go.RowKit

theorem bit_at (j : Nat) (h : j < 14) : (2 : Int) ^ j % 4294967296 = ((2 ^ j : Nat) : Int) := by
  have : j = 0 ∨ j = 1 ∨ j = 2 ∨ j = 3 ∨ j = 4 ∨ j = 5 ∨ j = 6 ∨ j = 7 ∨ j = 8 ∨ j = 9 ∨ j = 10 ∨ j = 11 ∨ j = 12 ∨ j = 13 := by omega
  rcases this with rfl | rfl | rfl | rfl | rfl | rfl | rfl | rfl | rfl | rfl | rfl | rfl | rfl | rfl <;> decide
theorem or_at (p : Int → Bool) (j : Nat) (h : j < 14) (hp : p j = true) : bits .or .u32 ((kset p j : Nat) : Int) ((2 : Int) ^ j % 4294967296) = ((kset p (j + 1) : Nat) : Int) := by
  have h1 := kset_lt p j
  have h2 : (2 : Nat) ^ j ≤ 2 ^ 13 := Nat.pow_le_pow_right (by decide) (by omega)
  rw [bit_at j h, u32_or_nat _ _ (by omega) (by omega)]
  simp only [kset, if_pos hp]

theorem kset_no (p : Int → Bool) (j : Nat) (hp : p j = false) : kset p j = kset p (j + 1) := by simp only [kset, hp]; rfl
/-- The pattern's own block, whatever is done behind it. -/
def One (w : World) (v0 v1 v2 : Value) (w' : World) : Prop := Below (w.heap.size + 1) (w.alloc (.cells #[v0, v1, v2] 43)) w'
theorem One.drew {w : World} {v0 v1 v2 : Value} {w' : World} (h : One w v0 v1 v2 w') : One w v0 v1 v2 w'.drew := Below.drew h
theorem One.below {w : World} {v0 v1 v2 : Value} {w' : World} (h : One w v0 v1 v2 w') : Below w.heap.size w w' := (below1 w _).trans (Below.mono h (by omega))
theorem One.step {w : World} {v0 v1 v2 : Value} {w1 w2 : World} (h : One w v0 v1 v2 w1) (hb : Below w1.heap.size w1 w2) : One w v0 v1 v2 w2 := by
  have := Below.size h
  simp at this
  exact Below.trans h (hb.mono (by omega))
theorem One.c {w : World} {v0 v1 v2 : Value} {w' : World} (h : One w v0 v1 v2 w') : w'.cell? ⟨w.heap.size, 0, none⟩ = some v0 ∧ w'.cell? ⟨w.heap.size, 1, none⟩ = some v1 ∧ w'.cell? ⟨w.heap.size, 2, none⟩ = some v2 := by
  obtain ⟨h0, h1, h2⟩ := (P3.new w v0 v1 v2).c
  refine ⟨?_, ?_, ?_⟩
  · rw [← h0]; exact Below.cell h (p := ⟨w.heap.size, 0, none⟩) (by show w.heap.size < w.heap.size + 1; omega)
  · rw [← h1]; exact Below.cell h (p := ⟨w.heap.size, 1, none⟩) (by show w.heap.size < w.heap.size + 1; omega)
  · rw [← h2]; exact Below.cell h (p := ⟨w.heap.size, 2, none⟩) (by show w.heap.size < w.heap.size + 1; omega)
theorem One.start (w : World) (v0 v1 v2 : Value) : One w v0 v1 v2 (w.alloc (.cells #[v0, v1, v2] 43)) := Below.refl _ _

/-- What the two blocks of Holds keep. -/
def OneD (w : World) (v0 v1 v2 : Value) (k i b : Int) (s : ByteArray) (ad : Option Addr) (len cap : Nat) (w' : World) : Prop :=
  Below (w.heap.size + 2) ((w.alloc (.cells #[v0, v1, v2] 43)).alloc (.cells #[.int .i64 k, .int .i64 i, .int .u64 b, .string s, .slice ad len cap] 26)) w'
end Go.Proofs.YtkgbpildikjoiaaGreatDoor
