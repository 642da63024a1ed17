/- A range over a function whose iterator keeps a text of its own in a cell, and whose rounds never leave the loop; no condition but those that the theorem names. -/
import Derived.RangeFuncNested
import Derived.RangeFuncBound
import Derived.RangeFuncCalls
import Derived.RangeFuncLeaves
import Derived.Shelf.Abstract
import Derived.WalkKit
import Derived.OwnWalkIn
import Derived.TacticsInMore
import Derived.LoopNIn
import Derived.LoopIn
import Derived.BigQuiet
import Derived.Test.YtanjkljcoccblaaDoorProg
namespace Go.Proofs.YtanjkljcoccblaaDoor
open Go.RowKit

/-- What such an iterator promises: block b is its own; a round leaves it alone. -/
def Gives {α : Type} (P : Program) (n g : Nat) (lb : Array Value) (enc : α → Array Value) (b : Nat) (K : Nat → Prop) (xs : List α) (w : World) : Prop :=
  ∀ (l : Nat) (J : List α → World → Prop) (W : World), Below w.heap.size w W →
    (∀ pre A q, J pre A → J pre (A.drewN q)) → (∀ pre A v, J pre A → J pre (A.setCell ⟨b, 0, none⟩ v)) →
    (∀ pre x A, x ∈ xs → J pre A → YieldAt Fence.wide (n - 1) P l (enc x) A fun e A' => e = .returned (.bool true) ∧ J (pre ++ [x]) A' ∧ ∀ k, K k → A'.heap[k]? = A.heap[k]?) →
    J [] W → CallsIn Fence.wide n P g (#[.func (.yield l) #[] #[]] ++ lb) W fun e W' => (∃ v, e = .returned v) ∧ J xs W'

theorem drewN_heap (w : World) (n : Nat) : (w.drewN n).heap = w.heap := by
  induction n with
  | zero => rfl
  | succ n ih => exact ih

/-- How a round ends. -/
def GP (I : World → Prop) (K : Nat → Prop) (B : Nat) (W : World) (e : Exit) (_ : Act) (W' : World) : Prop := e = .normal ∧ I W' ∧ (∀ k, K k → W'.heap[k]? = W.heap[k]?) ∧ KeepsFrom B W W'

theorem range_gives {α : Type} {P : Program} {n : Nat} {g : Operand} {ps : Array Tmp} {assign body : Code} {Q : Exit → Act → World → Prop} {a : Act} {w : World}
    {gf : Nat} {lb : Array Value} (hg : a.eval g = .func (.func gf) #[] lb) (eg : ∀ args w, (callFunc gf args).run P w = .ok (.enter gf args) w)
    {enc : α → Array Value} (hps : ∀ x, (enc x).size = ps.size) {b : Nat} (hb : b < w.heap.size) {K : Nat → Prop} (hK : ∀ k, K k → k < w.heap.size) {xs : List α} (hseq : Gives P (n - 1) gf lb enc b K xs w)
    (I : List α → World → Prop) (hId : ∀ pre A q, I pre A → I pre (A.drewN q)) (hIs : ∀ pre A v, I pre A → I pre (A.setCell ⟨b, 0, none⟩ v))
    (hIn : ∀ pre A k o, w.heap.size ≤ k → I pre A → I pre (A.putObj k o)) (hIa : ∀ pre A o, w.heap.size ≤ A.heap.size → I pre A → I pre (A.alloc o))
    (h0 : I [] w) (a₁ : α → Act)
    (hassign : ∀ (l : Nat) (x : α) (W : World) (K : Act → World → Prop), K (a₁ x) W → assign.wpIn (Fence.wide.inRound l) (n - 1 - 1) P (Exit.then K (fun _ _ _ => False)) { tmps := (ps.zip (enc x)).foldl (fun t (p, v) => t.setIfInBounds p v) a.tmps, defers := [] } W)
    (hbody : ∀ (l : Nat) (pre : List α) (x : α) (W : World), x ∈ xs → I pre W → body.wpIn (Fence.wide.inRound l) (n - 1 - 1) P (GP (I (pre ++ [x])) K w.heap.size W) (a₁ x) W)
    (hdone : ∀ W, I xs W → W.heap[w.heap.size]? = some (.deferred (some [])) → Q .normal { a with defers := { target := .collected w.heap.size, args := #[] } :: a.defers } W) :
    (Code.rangeFunc g ps assign body).wpIn Fence.wide n P Q a w := by
  refine wpIn_rangeFunc fun fn _ => ?_
  obtain ⟨r, hr⟩ : ∃ r : LoopState → Loop, r = fun st => { state := st, pending := none, fn, tmps := a.tmps, params := ps, assign, body, defers := w.heap.size } := ⟨_, rfl⟩
  obtain ⟨W1, hW1⟩ : ∃ W1, W1 = (w.alloc (.deferred (some []))).alloc (.loop (r .ready)) := ⟨_, rfl⟩
  have s1 : (w.alloc (.deferred (some []))).heap.size = w.heap.size + 1 := by simp
  have k1 : W1.heap[w.heap.size + 1]? = some (.loop (r .ready)) := by
    have := World.alloc_heap_new (w.alloc (.deferred (some []))) (.loop (r .ready))
    rw [s1, ← hW1] at this; exact this
  have k2 : W1.heap[w.heap.size]? = some (.deferred (some [])) := by
    rw [hW1, Below.heap_alloc _ _ _ (by omega)]; exact World.alloc_heap_new w _
  have k3 : I [] W1 := by rw [hW1]; exact hIa _ _ _ (by omega) (hIa _ _ _ (Nat.le_refl _) h0)
  have k4 : Below w.heap.size w W1 := by rw [hW1]; exact ((Below.refl _ w).alloc (Nat.le_refl _) _).alloc (by omega) _
  refine ⟨w.heap.size + 1, [{ target := .collected w.heap.size, args := #[] }], W1, { target := .fn (.func gf) lb, args := #[.func (.yield (w.heap.size + 1)) #[] #[]] }, W1, gf,
    #[.func (.yield (w.heap.size + 1)) #[] #[]] ++ lb, W1, ?_, ?_, fun _ _ => trivial, ?_, (fun h => by cases h), ?_⟩
  · rw [hW1, hr]; exact run_enterLoop_outer _ _ _ _ _
  · simp only [resolve, hg]; simp [go_sem]
  · simp [invoke, go_sem, eg]
  · refine (hseq (w.heap.size + 1) (fun pre W => I pre W ∧ W.heap[w.heap.size + 1]? = some (.loop (r .ready)) ∧ W.heap[w.heap.size]? = some (.deferred (some []))) W1 k4 ?_ ?_ ?_ ⟨k3, k1, k2⟩).mono ?_
    · rintro pre A q ⟨h1, h2, h3⟩
      exact ⟨hId _ _ _ h1, by rw [drewN_heap]; exact h2, by rw [drewN_heap]; exact h3⟩
    · rintro pre A v ⟨h1, h2, h3⟩
      exact ⟨hIs _ _ _ h1, by rw [Below.heap_setCell _ _ _ _ (by show w.heap.size + 1 ≠ b; omega)]; exact h2, by rw [Below.heap_setCell _ _ _ _ (by show w.heap.size ≠ b; omega)]; exact h3⟩
    · rintro pre x A hx ⟨h1, h2, h3⟩
      have hlt := (Array.getElem?_eq_some_iff.1 h2).1
      have hy := run_yield (P := P) (args := enc x) h2 (by rw [hr]; exact hps x)
      rw [hr] at hy
      refine ⟨fn, _, assign, body, hy, roundIn_of_wpIn trivial (hassign _ x A _ ⟨_, run_beginRound h2 (by rw [hr]), wpIn_mono (hbody _ pre x _ hx (hIn _ _ _ _ (by omega) h1)) ?_⟩)⟩
      rintro e a3 W3 ⟨rfl, i3, b3, f3⟩
      have l3 := f3.same _ _ (by omega) (World.putObj_heap_same hlt) rfl
      have d3 := f3.same _ _ (Nat.le_refl _) ((World.putObj_heap_other (by omega)).trans h3) rfl
      have lt3 := (Array.getElem?_eq_some_iff.1 l3).1
      have he := run_endRound (P := P) none l3
      refine ⟨_, _, he, rfl, ⟨hIn _ _ _ _ (by omega) i3, ?_, ?_⟩, fun k hk => ?_⟩
      · rw [World.putObj_heap_same lt3, hr]; rfl
      · rw [World.putObj_heap_other (by omega)]; exact d3
      · have := hK k hk
        rw [World.putObj_heap_other (by omega), b3 k hk, World.putObj_heap_other (by omega)]
    · rintro e W2 ⟨⟨v, rfl⟩, h1, h2, h3⟩
      have he := run_endLoop (P := P) h2 (by rw [hr]; simp)
      refine ⟨none, _, by rw [he, hr], hdone _ (hIn _ _ _ _ (by omega) h1) (by rw [World.putObj_heap_other (by omega)]; exact h3)⟩
end Go.Proofs.YtanjkljcoccblaaDoor
