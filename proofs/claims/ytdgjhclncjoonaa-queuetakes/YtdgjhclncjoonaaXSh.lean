/- The map of boxes that the package makes: a look-up, a store, and what its pointer answers; the conditions: the map and its boxes in memory. -/
import Derived.Test.YtdgjhclncjoonaaXEqv
import Derived.MapKept
import Derived.Deep.RegionHeld3
namespace Go.Proofs.Ytdgjhclncjoonaa.Dt
open Go.RowKit

/-- The map of boxes. -/
def Mp (w : World) (r : Nat) (l : List (Int × Nat)) : Prop :=
  ∃ (es : Array MapEntry) (ck : Nat), w.heap[r]? = some (.map es ck) ∧ es.toList.map (fun e => (e.key, e.val)) = l.map fun x => (Value.int .i64 x.1, Value.pointer (some ⟨x.2, 0, none⟩))
def lk (l : List (Int × Nat)) (i : Int) : Option Nat := (l.find? fun x => x.1 == i).map (·.2)

theorem findNow_lk (i : Int) : ∀ (es : List MapEntry) (l : List (Int × Nat)) (k : Nat), es.map (fun e => (e.key, e.val)) = l.map (fun x => (Value.int .i64 x.1, Value.pointer (some ⟨x.2, 0, none⟩))) →
    ∃ r, Instr.findNow (.int .i64) (.int .i64 i) es k = some r ∧ r.map (·.2) = (lk l i).map fun b => Value.pointer (some ⟨b, 0, none⟩)
  | [], [], _, _ => ⟨none, rfl, rfl⟩
  | [], _ :: _, _, h => by simp at h
  | _ :: _, [], _, h => by simp at h
  | e :: es, (j, b) :: l, k, h => by
    simp only [List.map_cons, List.cons.injEq, Prod.mk.injEq] at h
    obtain ⟨⟨h1, h2⟩, h3⟩ := h
    by_cases hij : i = j
    · subst hij
      exact ⟨some (k, e.val), by simp [Instr.findNow, Instr.sameNow, h1], by simp [lk, h2]⟩
    · obtain ⟨r, hr, hr'⟩ := findNow_lk i es l (k + 1) h3
      refine ⟨r, by simp [Instr.findNow, Instr.sameNow, h1, show (i == j) = false by simpa using hij, hr], ?_⟩
      rw [hr']
      have : ((j : Int) == i) = false := by simpa using fun e => hij e.symm
      simp [lk, this]

theorem Mp.lt {w : World} {r : Nat} {l : List (Int × Nat)} (h : Mp w r l) : r < w.heap.size := by
  obtain ⟨es, ck, hb, -⟩ := h; exact (Array.getElem?_eq_some_iff.1 hb).1
theorem Mp.below {w w' : World} {r : Nat} {l : List (Int × Nat)} (h : Mp w r l) (hb : Below w.heap.size w w') : Mp w' r l := by
  have := h.lt
  obtain ⟨es, ck, h1, h2⟩ := h
  exact ⟨es, ck, (hb.block r this).trans h1, h2⟩
theorem lk_mem {l : List (Int × Nat)} {i : Int} {b : Nat} (h : lk l i = some b) : (i, b) ∈ l := by
  unfold lk at h
  cases hf : l.find? (fun x => x.1 == i) with
  | none => rw [hf] at h; cases h
  | some x =>
    rw [hf] at h
    have h1 := List.mem_of_find?_eq_some hf
    have h2 := List.find?_some hf
    have : x.1 = i := by simpa using h2
    have h3 : x.2 = b := by simpa using h
    rw [← this, ← h3]; exact h1
theorem lk_none {l : List (Int × Nat)} {i : Int} (h : lk l i = none) (b : Nat) : (i, b) ∉ l := by
  intro hm
  unfold lk at h
  have : l.find? (fun x => x.1 == i) = none := by simpa using h
  have := List.find?_eq_none.1 this (i, b) hm
  simp at this
theorem below1 (w : World) (o : Obj) : Below w.heap.size w (w.alloc o) := (Below.refl _ w).alloc (Nat.le_refl _) _
end Go.Proofs.Ytdgjhclncjoonaa.Dt
