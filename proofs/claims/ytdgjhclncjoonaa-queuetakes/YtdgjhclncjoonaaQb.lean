/- The row of what waits, in memory, and the closures that compare; no condition but those that each theorem names. -/
import Derived.Test.YtdgjhclncjoonaaQa
import Derived.Deep.RegionHeld3
namespace Go.Proofs.Ytdgjhclncjoonaa
open Go.RowKit

/-- The row of pairs f stands in block A. -/
def Pq (w : World) (A n : Nat) (f : Nat → Int × Int) : Prop := ∃ cur : Array Value, Bk w A cur 65 ∧ cur.size = n * 2 ∧ ∀ i, i < n → cur[i * 2]? = some (.int .i64 (f i).1) ∧ cur[i * 2 + 1]? = some (.int .i64 (f i).2)
theorem Pq.lt {w : World} {A n : Nat} {f : Nat → Int × Int} (h : Pq w A n f) : A < w.heap.size := by obtain ⟨c, h, -⟩ := h; exact h.lt
theorem Pq.heap {w w' : World} {A n : Nat} {f : Nat → Int × Int} (h : Pq w A n f) (hh : w'.heap[A]? = w.heap[A]?) : Pq w' A n f := by
  obtain ⟨c, h1, h2⟩ := h
  exact ⟨c, hh.trans h1, h2⟩
theorem Pq.step {w w' : World} {A n : Nat} {f : Nat → Int × Int} (h : Pq w A n f) (hb : Below w.heap.size w w') : Pq w' A n f := h.heap (hb.block A h.lt)
theorem Pq.c {w : World} {A n : Nat} {f : Nat → Int × Int} (h : Pq w A n f) (i : Nat) (hi : i < n) : w.cell? ⟨A, i * 2, none⟩ = some (.int .i64 (f i).1) ∧ w.cell? ⟨A, i * 2 + 1, none⟩ = some (.int .i64 (f i).2) := by
  obtain ⟨c, h1, h2, h3⟩ := h
  rw [h1.c, h1.c]
  exact h3 i hi
theorem Pq.f {w : World} {A n : Nat} {f : Nat → Int × Int} (h : Pq w A n f) (o : Nat) : w.frozen? ⟨A, o, none⟩ = false := by
  obtain ⟨c, h1, h2, h3⟩ := h
  exact h1.f o
/-- One pair written. -/
theorem Pq.set {w : World} {A n : Nat} {f : Nat → Int × Int} (h : Pq w A n f) (i : Nat) (hi : i < n) (v : Int × Int) : Pq ((w.setCell ⟨A, i * 2, none⟩ (.int .i64 v.1)).setCell ⟨A, i * 2 + 1, none⟩ (.int .i64 v.2)) A n (fun q => if q = i then v else f q) := by
  obtain ⟨c, h1, h2, h3⟩ := h
  refine ⟨_, (h1.set _ _).set _ _, by simpa using h2, fun q hq => ?_⟩
  have hs1 : i * 2 < c.size := by omega
  have hs2 : i * 2 + 1 < c.size := by omega
  obtain ⟨g1, g2⟩ := h3 q hq
  simp only [Array.getElem?_setIfInBounds, Array.size_setIfInBounds]
  by_cases e : q = i
  · subst e
    simp only [if_pos, hs1, hs2]
    refine ⟨?_, ?_⟩
    · rw [if_neg (by omega)]
    · trivial
  · rw [if_neg e, if_neg (by omega), if_neg (by omega), if_neg (by omega), if_neg (by omega)]
    exact ⟨g1, g2⟩
/-- The closure that says which priority goes first. -/
def gq (up : Bool) : FuncId := if up then 29 else 26
def gv (up : Bool) : Value := .func (.func (gq up)) #[] #[]
theorem put1_any (x y : Int) (w : World) : Calls Try.prog 26 #[.int .i64 x, .int .i64 y] w fun e w' => e = .returned (.bool (gf false x y)) ∧ w' = w := by
  go_enter Try.func26, Try.ntmps26
  go_wp2
  go_ret
  exact ⟨rfl, rfl⟩
theorem take1_any (x y : Int) (w : World) : Calls Try.prog 29 #[.int .i64 x, .int .i64 y] w fun e w' => e = .returned (.bool (gf true x y)) ∧ w' = w := by
  go_enter Try.func29, Try.ntmps29
  go_wp2
  go_ret
  exact ⟨rfl, rfl⟩
set_option maxRecDepth 100000 in
set_option maxHeartbeats 1000000 in
theorem ahead_any (up : Bool) (x y : Int × Int) (G : Nat) (w : World) (hG : w.cell? ⟨G, 0, none⟩ = some (gv up)) (hl : G < w.heap.size) :
    Calls Try.prog 33 #[.agg #[.int .i64 x.1, .int .i64 x.2], .agg #[.int .i64 y.1, .int .i64 y.2], .pointer (some ⟨G, 0, none⟩)] w fun e w' => e = .returned (.bool (ahd up x y)) ∧ Below w.heap.size w w' := by
  obtain ⟨x1, x2⟩ := x
  obtain ⟨y1, y2⟩ := y
  have hG2 : ((w.alloc (.cells #[.int .i64 x1, .int .i64 x2] 65)).alloc (.cells #[.int .i64 y1, .int .i64 y2] 65)).cell? ⟨G, 0, none⟩ = some (gv up) := (((below2 w _ _)).cell hl).trans hG
  clear hG
  cases up
  all_goals unfold gv gq at hG2
  all_goals unfold ahd
  all_goals simp only [Bool.false_eq_true, if_false, if_true] at hG2
  all_goals go_enter Try.func33, Try.ntmps33
  all_goals by_cases h : x1 = y1
  all_goals (first | (have e1 : (x1 == y1) = true := by simpa using h) | (have e1 : (x1 == y1) = false := by simpa using h))
  all_goals (first | (have e2 : (x1 != y1) = true := by simpa using h) | (have e2 : (x1 != y1) = false := by simpa using h))
  all_goals go_wp2_with (first | (go_at_call 26; refine (put1_any _ _ _).mono ?_; rintro e w1 ⟨rfl, rfl⟩) | (go_at_call 29; refine (take1_any _ _ _).mono ?_; rintro e w1 ⟨rfl, rfl⟩))
  all_goals go_ret
  all_goals first | exact ⟨by simp, below2 w _ _⟩ | exact ⟨by simp [h], below2 w _ _⟩
end Go.Proofs.Ytdgjhclncjoonaa
