/- The package's Plain of values with parts: octets, rows, pairs and pointers; the conditions: the value in memory, and Plain's own contract for the parts. -/
import Derived.Test.YtihmkjlmhjhocaaDpB
namespace Go.Proofs.Ytihmkjlmhjhocaa.Dt
open Go.RowKit
def zD (w : World) : World := w.alloc (.cells #[.int .i64 0, .int .i64 0, .int .u64 0, .string ⟨#[]⟩, .slice none 0 0] 28)
theorem put5 (w w2 : World) (S : Nat) (cs : Array Value) (x0 x1 x2 x3 x4 : Value) (hS : w.heap.size < S) (b2 : Below w.heap.size w w2) (hs : S ≤ w2.heap.size) {W : World} (hW : W = ((((((w2.alloc (.cells cs 28)).setCell ⟨w.heap.size, 0, none⟩ x0).setCell ⟨w.heap.size, 1, none⟩ x1).setCell ⟨w.heap.size, 2, none⟩ x2).setCell ⟨w.heap.size, 3, none⟩ x3).setCell ⟨w.heap.size, 4, none⟩ x4)) :
    W.heap.size = w2.heap.size + 1 ∧ (∀ q, S ≤ q → q < w2.heap.size → W.heap[q]? = w2.heap[q]?) ∧ W.heap[w2.heap.size]? = some (.cells cs 28 (0, 0)) ∧ Below w.heap.size w W := by
  subst hW
  refine ⟨by simp [World.setCell], fun q h1 h2 => ?_, ?_, ?_⟩
  · have hq : q ≠ w.heap.size := by omega
    rw [Below.heap_setCell _ _ _ q hq, Below.heap_setCell _ _ _ q hq, Below.heap_setCell _ _ _ q hq, Below.heap_setCell _ _ _ q hq, Below.heap_setCell _ _ _ q hq]
    exact (below1 w2 _).block q h2
  · have hq : w2.heap.size ≠ w.heap.size := by omega
    rw [Below.heap_setCell _ _ _ _ hq, Below.heap_setCell _ _ _ _ hq, Below.heap_setCell _ _ _ _ hq, Below.heap_setCell _ _ _ _ hq, Below.heap_setCell _ _ _ _ hq]
    exact heap_alloc_new w2 _
  · exact (((((b2.alloc b2.size _).setCell (Nat.le_refl _) _).setCell (Nat.le_refl _) _).setCell (Nat.le_refl _) _).setCell (Nat.le_refl _) _).setCell (Nat.le_refl _) _
end Go.Proofs.Ytihmkjlmhjhocaa.Dt
