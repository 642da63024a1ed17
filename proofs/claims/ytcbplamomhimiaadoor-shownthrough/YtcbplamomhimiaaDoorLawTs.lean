/- A chain in a block of its own whose wrappers are put together one after another; no condition but those that each theorem names. -/
import Derived.Test.YtcbplamomhimiaaDoorLawTp
namespace Go.Proofs.YtcbplamomhimiaaDoor
open Go.RowKit

/-- The block N with the chain, its wrappers the row xs; the block of the chain that came in, as it was. -/
structure StT (w : World) (ob : Obj) (N : Nat) (op num : Int) (c : Nat) (W : World) (v : Value) (m : Nat) (xs : List Value) : Prop where
  blk : W.heap[N]? = some (.cells #[.int .i64 op, .int .i64 num, .int .u32 (c : Nat), v] 28)
  own : W.ownsRow (N + 1) 35 8 v m xs
  on : On w ob W
  lt : w.heap.size < N
theorem StT.cells {w W : World} {ob : Obj} {N : Nat} {op num : Int} {c : Nat} {v : Value} {m : Nat} {xs : List Value} (h : StT w ob N op num c W v m xs) :
    W.cell? ⟨N, 0, none⟩ = some (.int .i64 op) ∧ W.cell? ⟨N, 1, none⟩ = some (.int .i64 num) ∧ W.cell? ⟨N, 2, none⟩ = some (.int .u32 (c : Nat)) ∧ W.cell? ⟨N, 3, none⟩ = some v ∧ W.frozen? ⟨N, 3, none⟩ = false ∧ N < W.heap.size :=
  ⟨by rw [cell_at h.blk]; rfl, by rw [cell_at h.blk]; rfl, by rw [cell_at h.blk]; rfl, by rw [cell_at h.blk]; rfl, by simp [World.frozen?, h.blk], (Array.getElem?_eq_some_iff.1 h.blk).1⟩
theorem StT.below {w W W' : World} {ob : Obj} {N : Nat} {op num : Int} {c : Nat} {v : Value} {m : Nat} {xs : List Value} (h : StT w ob N op num c W v m xs) (hb : Below W.heap.size W W') : StT w ob N op num c W' v m xs :=
  ⟨(hb.block N h.cells.2.2.2.2.2).trans h.blk, own_kept h.own hb, h.on.step hb, h.lt⟩
theorem StT.put {w W : World} {ob : Obj} {N : Nat} {op num : Int} {c : Nat} {v : Value} {m : Nat} {xs : List Value} (h : StT w ob N op num c W v m xs) {v' : Value} {m' : Nat} {xs' : List Value} (ho : W.ownsRow (N + 1) 35 8 v' m' xs') : StT w ob N op num c (W.setCell ⟨N, 3, none⟩ v') v' m' xs' := by
  refine ⟨?_, ownsRow_setCell_below ho (a := ⟨N, 3, none⟩) (by show N < N + 1; omega) v', Below.setCell h.on (by show w.heap.size + 1 ≤ N; have := h.lt; omega) v', h.lt⟩
  rw [setCell_eq_setRow _ _ _ _ _ _ _ h.blk]
  exact setRow_heap _ _ _ _ _ _ h.blk
theorem StT.grown {w W w2 : World} {ob : Obj} {N : Nat} {op num : Int} {c : Nat} {v : Value} {m : Nat} {xs : List Value} (h : StT w ob N op num c W v m xs) (hg : W.grownBy w2 v.ownBlock) : w2.heap[N]? = some (.cells #[.int .i64 op, .int .i64 num, .int .u32 (c : Nat), v] 28) ∧ On w ob w2 := by
  have hN := h.cells.2.2.2.2.2
  have hb := own_base h.own
  have hl := h.lt
  refine ⟨(hg.block N hN (fun e => by have := hb N e.symm; omega)).trans h.blk, Below.grown h.on hg (by have := h.on.size; omega) (fun k hk => by have := hb k hk; omega)⟩
/-- Behind an append. -/
theorem StT.next {w W w2 : World} {ob : Obj} {N : Nat} {op num : Int} {c : Nat} {v : Value} {m : Nat} {xs : List Value} (h : StT w ob N op num c W v m xs) (hg : W.grownBy w2 v.ownBlock) {v' : Value} {m' : Nat} {xs' : List Value} (ho : w2.ownsRow (N + 1) 35 8 v' m' xs') :
    StT w ob N op num c (w2.setCell ⟨N, 3, none⟩ v') v' m' xs' ∧ w2.cell? ⟨N, 3, none⟩ = some v ∧ w2.frozen? ⟨N, 3, none⟩ = false := by
  obtain ⟨hb, ho2⟩ := h.grown hg
  refine ⟨?_, by rw [cell_at hb]; rfl, by simp [World.frozen?, hb]⟩
  refine ⟨?_, ownsRow_setCell_below ho (a := ⟨N, 3, none⟩) (by show N < N + 1; omega) v', Below.setCell ho2 (by show w.heap.size + 1 ≤ N; have := h.lt; omega) v', h.lt⟩
  rw [setCell_eq_setRow _ _ _ _ _ _ _ hb]
  exact setRow_heap _ _ _ _ _ _ hb
theorem StT.drew {w W : World} {ob : Obj} {N : Nat} {op num : Int} {c : Nat} {v : Value} {m : Nat} {xs : List Value} (h : StT w ob N op num c W v m xs) : StT w ob N op num c W.drew v m xs := ⟨h.blk, h.own, h.on.drew, h.lt⟩
theorem StT.start {w w1 : World} {ob : Obj} {op num : Int} {c : Nat} (h : On w ob w1) : StT w ob w1.heap.size op num c (w1.alloc (.cells #[.int .i64 op, .int .i64 num, .int .u32 (c : Nat), .slice none 0 0] 28)) (.slice none 0 0) 0 [] :=
  ⟨heap_alloc_new w1 _, ⟨rfl, .inl ⟨rfl, rfl⟩⟩, h.step (below1 _ _), by have := h.size; omega⟩
end Go.Proofs.YtcbplamomhimiaaDoor
