/- The package's row and place, with boxes by number, over a list's trees; the conditions: the trees in memory and valid, the map and its boxes in memory, and value's own contract for the parts. -/
import Derived.Test.YtdgjhclncjoonaaXSh
import Derived.Laws.MakeOwn
namespace Go.Proofs.Ytdgjhclncjoonaa.Dt
open Go.RowKit
theorem grown_setNew {w0 w : World} {row : Option Nat} (h : w0.grownBy w row) {N o : Nat} (hN : w0.heap.size ≤ N) (u : Value) : w0.grownBy (w.setCell ⟨N, o, none⟩ u) row :=
  ⟨h.os, h.tape, h.output, by have := h.size; simp only [World.setCell, Array.size_modify]; exact this,
    fun k hk hn => (Below.heap_setCell w ⟨N, o, none⟩ u k (by show k ≠ N; omega)).trans (h.block k hk hn)⟩
/-- A block holds one cell. -/
def C1 (w : World) (N : Nat) (t : TypeId) (v : Value) : Prop := w.heap[N]? = some (.cells #[v] t (0, 0))
theorem C1.lt {w : World} {N : Nat} {t : TypeId} {v : Value} (h : C1 w N t v) : N < w.heap.size := (Array.getElem?_eq_some_iff.1 h).1
theorem C1.below {w w' : World} {N : Nat} {t : TypeId} {v : Value} (h : C1 w N t v) (hb : Below w.heap.size w w') : C1 w' N t v := (hb.block N h.lt).trans h
theorem C1.kept {w w' : World} {N r : Nat} {t : TypeId} {v : Value} (h : C1 w N t v) (hg : w.grownBy w' (some r)) (hne : N ≠ r) : C1 w' N t v := (hg.block N h.lt (fun e => hne (Option.some.inj e))).trans h
theorem C1.c {w : World} {N : Nat} {t : TypeId} {v : Value} (h : C1 w N t v) : w.cell? ⟨N, 0, none⟩ = some v := by unfold C1 at h; simp [World.cell?, h]
theorem C1.f {w : World} {N o : Nat} {t : TypeId} {v : Value} (h : C1 w N t v) : w.frozen? ⟨N, o, none⟩ = false := by unfold C1 at h; simp [World.frozen?, h]
theorem C1.new (w : World) (t : TypeId) (v : Value) : C1 (w.alloc (.cells #[v] t)) w.heap.size t v := heap_alloc_new w _
theorem C1.set {w : World} {N : Nat} {t : TypeId} {v : Value} (h : C1 w N t v) (a : Addr) (x : Value) (hne : N ≠ a.block) : C1 (w.setCell a x) N t v := (Below.heap_setCell w a x N hne).trans h

/-- A block holds n values. -/
def Rb (w : World) (N n : Nat) : Prop := ∃ cs : Array Value, w.heap[N]? = some (.cells cs 20 (0, 0)) ∧ cs.size = n
theorem Rb.lt {w : World} {N n : Nat} (h : Rb w N n) : N < w.heap.size := by obtain ⟨cs, h, -⟩ := h; exact (Array.getElem?_eq_some_iff.1 h).1
theorem Rb.below {w w' : World} {N n : Nat} (h : Rb w N n) (hb : Below w.heap.size w w') : Rb w' N n := by
  have := h.lt; obtain ⟨cs, h1, h2⟩ := h; exact ⟨cs, (hb.block N this).trans h1, h2⟩
theorem Rb.kept {w w' : World} {N n r : Nat} (h : Rb w N n) (hg : w.grownBy w' (some r)) (hne : N ≠ r) : Rb w' N n := by
  have := h.lt; obtain ⟨cs, h1, h2⟩ := h; exact ⟨cs, (hg.block N this (fun e => hne (Option.some.inj e))).trans h1, h2⟩
theorem Rb.c {w : World} {N n j : Nat} (h : Rb w N n) (hj : j < n) : ∃ x, w.cell? ⟨N, j, none⟩ = some x := by
  obtain ⟨cs, h1, h2⟩ := h; exact ⟨cs[j]'(by omega), by simp [World.cell?, h1, h2, hj]⟩
theorem Rb.f {w : World} {N n o : Nat} (h : Rb w N n) : w.frozen? ⟨N, o, none⟩ = false := by
  obtain ⟨cs, h1, h2⟩ := h; simp [World.frozen?, h1]
theorem Rb.set {w : World} {N n j : Nat} (h : Rb w N n) (x : Value) : Rb (w.setCell ⟨N, j, none⟩ x) N n := by
  obtain ⟨cs, h1, h2⟩ := h
  exact ⟨cs.setIfInBounds j x, by simp [World.setCell, Array.getElem?_modify, h1], by simp [h2]⟩
theorem Mp.set {w : World} {r : Nat} {l : List (Int × Nat)} (h : Mp w r l) (a : Addr) (x : Value) (hne : r ≠ a.block) : Mp (w.setCell a x) r l := by
  obtain ⟨es, ck, h1, h2⟩ := h; exact ⟨es, ck, (Below.heap_setCell w a x r hne).trans h1, h2⟩
end Go.Proofs.Ytdgjhclncjoonaa.Dt
