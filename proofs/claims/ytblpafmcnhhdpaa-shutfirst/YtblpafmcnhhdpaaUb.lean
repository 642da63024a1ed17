/- In which order things are closed, as lists; and how rows of rows lie in memory; no condition. -/
import Derived.Test.YtblpafmcnhhdpaaUa
namespace Go.Proofs.Ytblpafmcnhhdpaa
open Go.RowKit

/-- A number that plays a part in the list of i. -/
def vd (n i : Nat) (k : Int) : Bool := decide (0 ≤ k) && decide (k < (n : Int)) && decide (k ≠ (i : Int))
/-- Must something be closed ahead of i that is not yet? -/
def wts (A : List (List Int)) (f : Nat → Bool) (i : Nat) : Bool := ((A[i]?).getD []).any fun k => vd A.length i k && !f k.toNat
def fre (A : List (List Int)) (f : Nat → Bool) (i : Nat) : Bool := !f i && !wts A f i
def lst (A : List (List Int)) (f : Nat → Bool) : Option Nat := (List.range A.length).find? (fre A f)
def mf (acc : List Nat) (j : Nat) : Bool := decide (j ∈ acc)
def run (A : List (List Int)) : Nat → List Nat → List Nat
  | 0, acc => acc
  | m + 1, acc => match lst A (mf acc) with
    | none => acc
    | some i => run A m (acc ++ [i])
def ord (A : List (List Int)) : List Nat := run A A.length []
/-- Those of the first j that are not closed. -/
def lft (n : Nat) (acc : List Nat) : List Nat := (List.range n).filter fun i => !mf acc i
def cyc (A : List (List Int)) : List Nat := lft A.length (ord A)

theorem lst_some {A : List (List Int)} {f : Nat → Bool} {i : Nat} (h1 : i < A.length) (h2 : fre A f i = true) (h3 : ∀ j, j < i → fre A f j = false) : lst A f = some i := by
  unfold lst
  rw [List.find?_range_eq_some]
  exact ⟨h2, by simpa using h1, fun j hj => by simp [h3 j hj]⟩
theorem lst_none {A : List (List Int)} {f : Nat → Bool} (h : ∀ j, j < A.length → fre A f j = false) : lst A f = none := by
  unfold lst
  rw [List.find?_eq_none]
  intro x hx
  rw [h x (by simpa using hx)]
  simp
theorem lst_is {A : List (List Int)} {f : Nat → Bool} {i : Nat} (h : lst A f = some i) : i < A.length ∧ fre A f i = true := by
  unfold lst at h
  have h1 := List.find?_some h
  have h2 := List.mem_of_find?_eq_some h
  exact ⟨by simpa using h2, h1⟩
theorem lst_no {A : List (List Int)} {f : Nat → Bool} (h : lst A f = none) (j : Nat) (hj : j < A.length) : fre A f j = false := by
  unfold lst at h
  rw [List.find?_eq_none] at h
  have := h j (by simpa using hj)
  simpa using this
theorem run_stop {A : List (List Int)} {acc : List Nat} (h : lst A (mf acc) = none) : ∀ m, run A m acc = acc
  | 0 => rfl
  | m + 1 => by simp only [run, h]
theorem run_go {A : List (List Int)} {acc : List Nat} {i : Nat} (h : lst A (mf acc) = some i) (m : Nat) : run A (m + 1) acc = run A m (acc ++ [i]) := by simp only [run, h]
theorem flt {p : Nat → Bool} {i : Nat} : ∀ l : List Nat, l.Nodup → i ∈ l → p i = true → (l.filter fun j => p j && decide (j ≠ i)).length + 1 = (l.filter p).length
  | [], _, h, _ => by simp at h
  | x :: r, hn, h, hp => by
    rw [List.nodup_cons] at hn
    by_cases hx : x = i
    · subst hx
      have e : (r.filter fun j => p j && decide (j ≠ x)) = r.filter p := List.filter_congr fun j hj => by
        have : j ≠ x := fun e => hn.1 (e ▸ hj)
        simp [this]
      simp only [List.filter_cons, hp, ne_eq, not_true_eq_false, decide_false, Bool.and_false, Bool.false_eq_true, if_false, if_true, List.length_cons]
      simp only [ne_eq] at e
      rw [e]
    · have hi : i ∈ r := by
        rcases List.mem_cons.1 h with h | h
        · exact absurd h.symm hx
        · exact h
      have ih := flt r hn.2 hi hp
      simp only [List.filter_cons]
      cases hpx : p x
      · simpa using ih
      · simp [hx] at ih ⊢
        omega
theorem lft_step {n : Nat} {acc : List Nat} {i : Nat} (h1 : i < n) (h2 : i ∉ acc) : (lft n (acc ++ [i])).length + 1 = (lft n acc).length := by
  have := flt (p := fun j => !mf acc j) (List.range n) List.nodup_range (by simpa using h1) (by simp [mf, h2])
  unfold lft
  rw [← this]
  congr 2
  apply List.filter_congr
  intro j _
  simp only [mf, List.mem_append, List.mem_singleton]
  by_cases a : j ∈ acc <;> by_cases b : j = i <;> simp [a, b]
theorem lft_nil (n : Nat) : lft n [] = List.range n := by
  unfold lft
  rw [List.filter_eq_self]
  intro j _
  simp [mf]
/-- What the way to the order keeps: what is closed so far, and what is still to do. -/
structure Wy (A : List (List Int)) (acc : List Nat) : Prop where
  to : run A (lft A.length acc).length acc = ord A
  nd : acc.Nodup
  lt : ∀ i ∈ acc, i < A.length
  len : acc.length + (lft A.length acc).length = A.length
theorem Wy.nil (A : List (List Int)) : Wy A [] := ⟨by rw [lft_nil]; simp [ord], List.nodup_nil, fun i h => by simp at h, by rw [lft_nil]; simp⟩
theorem Wy.go {A : List (List Int)} {acc : List Nat} (h : Wy A acc) {i : Nat} (hl : lst A (mf acc) = some i) : Wy A (acc ++ [i]) ∧ (lft A.length (acc ++ [i])).length + 1 = (lft A.length acc).length := by
  obtain ⟨h1, h2⟩ := lst_is hl
  have h3 : i ∉ acc := by
    unfold fre at h2
    simp only [Bool.and_eq_true, mf] at h2
    simpa using h2.1
  have e := lft_step h1 h3
  refine ⟨⟨?_, ?_, ?_, ?_⟩, e⟩
  · rw [← h.to, ← e, run_go hl]
  · rw [List.nodup_append]
    refine ⟨h.nd, by simp, fun a ha b hb e2 => ?_⟩
    simp only [List.mem_singleton] at hb
    exact h3 (by rw [← hb, ← e2]; exact ha)
  · intro j hj
    rcases List.mem_append.1 hj with hj | hj
    · exact h.lt j hj
    · simp only [List.mem_singleton] at hj; omega
  · rw [List.length_append]
    have := h.len
    simp only [List.length_cons, List.length_nil]
    omega
theorem Wy.stop {A : List (List Int)} {acc : List Nat} (h : Wy A acc) (hl : lst A (mf acc) = none) : ord A = acc := by rw [← h.to, run_stop hl]
theorem Wy.le {A : List (List Int)} {acc : List Nat} (h : Wy A acc) : acc.length ≤ A.length := by have := h.len; omega

/-- A slice of rows of numbers. -/
def Rj (w : World) (ad : Option Addr) (A : List (List Int)) : Prop := A = [] ∨ ∃ b o, ad = some ⟨b, o, none⟩ ∧ ∀ (j : Nat) l, A[j]? = some l → ∃ sv, w.cell? ⟨b, o + j, none⟩ = some sv ∧ Ri w sv l
theorem Rj.below {w w' : World} {ad : Option Addr} {A : List (List Int)} (h : Rj w ad A) (hb : Below w.heap.size w w') : Rj w' ad A := by
  rcases h with h | ⟨b, o, e, h⟩
  · exact .inl h
  · refine .inr ⟨b, o, e, fun j l hj => ?_⟩
    obtain ⟨sv, h1, h2⟩ := h j l hj
    exact ⟨sv, (hb.cell (p := ⟨b, _, none⟩) (World.block_lt_of_cell? w _ h1)).trans h1, h2.below hb⟩
theorem Rj.at {w : World} {ad : Option Addr} {A : List (List Int)} (h : Rj w ad A) (j : Nat) (l : List Int) (hj : A[j]? = some l) : ∃ b o sv, ad = some ⟨b, o, none⟩ ∧ w.cell? ⟨b, o + j, none⟩ = some sv ∧ Ri w sv l := by
  rcases h with h | ⟨b, o, e, h⟩
  · subst h; simp at hj
  · obtain ⟨sv, h1, h2⟩ := h j l hj
    exact ⟨b, o, sv, e, h1, h2⟩
/-- Not too many. -/
def sml (A : List (List Int)) : Bool := decide ((A.map fun l => l.length + 1).sum ≤ 400)
theorem sml_len {A : List (List Int)} (h : (A.map fun l => l.length + 1).sum ≤ 400) : A.length ≤ 400 ∧ ∀ l ∈ A, l.length ≤ 400 := by
  induction A with
  | nil => exact ⟨by simp, fun l h => by simp at h⟩
  | cons x r ih =>
    simp only [List.map_cons, List.sum_cons] at h
    obtain ⟨h1, h2⟩ := ih (by omega)
    have h3 : r.length ≤ (r.map fun l => l.length + 1).sum := by
      clear ih h h1 h2
      induction r with
      | nil => simp
      | cons y r ih => simp only [List.map_cons, List.sum_cons, List.length_cons]; omega
    refine ⟨by simp only [List.length_cons]; omega, fun l hl => ?_⟩
    rcases List.mem_cons.1 hl with rfl | hl
    · omega
    · exact h2 l hl
end Go.Proofs.Ytblpafmcnhhdpaa
