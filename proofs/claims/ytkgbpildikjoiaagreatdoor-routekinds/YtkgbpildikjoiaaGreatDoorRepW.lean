/- A pattern's tree as it lies in memory, and what of it stays when new memory is made; each theorem names its conditions. -/
import Derived.Test.YtkgbpildikjoiaaGreatDoorImp
namespace Go.Proofs.YtkgbpildikjoiaaGreatDoor
open Go.RowKit

/-- The pattern t lies in w behind the three cells cs. -/
def RepW (w : World) : (n : Nat) → List Value → Wt n → Prop
  | 0, _, _ => False
  | n + 1, cs, t => ∃ (ad : Option Addr) (cap : Nat), cs = [.int .i64 t.op, .int .i64 t.nm, .slice ad t.ks.length cap] ∧ t.ks.length ≤ cap ∧ cap ≤ maxLen ∧
      (t.ks = [] ∨ ∃ g o, ad = some ⟨g, o, none⟩ ∧ ∀ (j : Nat) (t' : Wt n), t.ks[j]? = some t' → ∃ v0 v1 v2, w.cell? ⟨g, o + j * 3, none⟩ = some v0 ∧ w.cell? ⟨g, o + j * 3 + 1, none⟩ = some v1 ∧ w.cell? ⟨g, o + j * 3 + 2, none⟩ = some v2 ∧ RepW w n [v0, v1, v2] t')

theorem RepW.below {w w' : World} (hb : Below w.heap.size w w') : ∀ (n : Nat) (cs : List Value) (t : Wt n), RepW w n cs t → RepW w' n cs t
  | 0, _, _, h => h
  | n + 1, cs, t, h => by
    obtain ⟨ad, cap, h1, h3, h4, h5⟩ := h
    refine ⟨ad, cap, h1, h3, h4, ?_⟩
    rcases h5 with h5 | ⟨g, o, h6, h7⟩
    · exact .inl h5
    · refine .inr ⟨g, o, h6, fun j t' hj => ?_⟩
      obtain ⟨v0, v1, v2, c0, c1, c2, r⟩ := h7 j t' hj
      have hg : g < w.heap.size := World.block_lt_of_cell? w _ c0
      exact ⟨v0, v1, v2, (hb.cell (p := ⟨g, _, none⟩) hg).trans c0, (hb.cell (p := ⟨g, _, none⟩) hg).trans c1, (hb.cell (p := ⟨g, _, none⟩) hg).trans c2, RepW.below hb n _ _ r⟩

/-- A pattern in a block of its own. -/
def P3 (w : World) (N : Nat) (v0 v1 v2 : Value) : Prop := w.heap[N]? = some (.cells #[v0, v1, v2] 43 (0, 0))
theorem P3.c {w : World} {N : Nat} {v0 v1 v2 : Value} (h : P3 w N v0 v1 v2) : w.cell? ⟨N, 0, none⟩ = some v0 ∧ w.cell? ⟨N, 1, none⟩ = some v1 ∧ w.cell? ⟨N, 2, none⟩ = some v2 := by
  unfold P3 at h; simp [World.cell?, h]
theorem P3.new (w : World) (v0 v1 v2 : Value) : P3 (w.alloc (.cells #[v0, v1, v2] 43)) w.heap.size v0 v1 v2 := by
  unfold P3; exact heap_alloc_new w _
theorem P3.lt {w : World} {N : Nat} {v0 v1 v2 : Value} (h : P3 w N v0 v1 v2) : N < w.heap.size := by
  unfold P3 at h; exact (Array.getElem?_eq_some_iff.1 h).1
theorem P3.below {w w' : World} {N : Nat} {v0 v1 v2 : Value} (h : P3 w N v0 v1 v2) (hb : Below w.heap.size w w') : P3 w' N v0 v1 v2 := by
  have := h.lt
  unfold P3 at h ⊢
  exact (hb.block N this).trans h
theorem repW_shape {w : World} {n : Nat} {v0 v1 v2 : Value} {t : Wt n} (h : RepW w n [v0, v1, v2] t) : ∃ (o m : Int) (ad : Option Addr) (len cap : Nat), v0 = .int .i64 o ∧ v1 = .int .i64 m ∧ v2 = .slice ad len cap := by
  match n, t, h with
  | n + 1, t, h =>
    obtain ⟨ad, cap, e, -, -, -⟩ := h
    simp only [List.cons.injEq, and_true] at e
    exact ⟨_, _, _, _, _, e⟩
end Go.Proofs.YtkgbpildikjoiaaGreatDoor
