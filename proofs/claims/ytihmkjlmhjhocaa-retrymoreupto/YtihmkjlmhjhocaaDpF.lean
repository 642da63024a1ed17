/- The package's Plain of any value that it made of a valid tree: the plain data of the same tree, in new memory; the conditions: the value in memory, its tree valid. -/
import Derived.Test.YtihmkjlmhjhocaaDpE
namespace Go.Proofs.Ytihmkjlmhjhocaa.Dt
open Go.RowKit
theorem ok_all {k i u : Int} {sz len : Nat} (h : okB k i u sz len = true) : (k = 6 → i = 0 ∨ i = 1) ∧ (k = 9 → len = 2) ∧ (k = 11 → len = 1) ∧ (k ≠ 1 → k ≠ 2 → k ≠ 6 → k ≠ 10 → k ≠ 11 → i = 0) ∧ (k ≠ 4 → k ≠ 5 → k ≠ 7 → k ≠ 10 → sz = 0) ∧ (k ≠ 3 → u = 0) ∧ (k ≠ 8 → k ≠ 9 → k ≠ 11 → len = 0) ∧ sz ≤ 65535 ∧ 0 ≤ k ∧ k ≤ 13 := by
  unfold okB at h
  repeat' split at h
  all_goals (try simp only [decide_eq_true_eq] at h)
  all_goals (first | omega | cases h)
theorem empty_of {s : ByteArray} (h : s.size = 0) : s = ⟨#[]⟩ := by
  cases s with
  | mk d =>
    have : d.size = 0 := h
    rw [Array.eq_empty_of_size_eq_zero this]
theorem Rf.leaf {F : Nat → Prop} {w : World} {n : Nat} {t : Tr (n + 1)} (h : t.ks = []) (hs : t.tx.size ≤ 65535) : Rf F w (n + 1) [.int .i64 t.kd, .int .i64 t.it, .int .u64 t.ut, .string t.tx, .slice none 0 0] t :=
  ⟨none, 0, by simp [h], by unfold maxLen; omega, by simp [h], by unfold maxLen; omega, .inl h⟩
theorem cell_q {w w' : World} {g o : Nat} {x : Value} (h : w'.heap[g]? = w.heap[g]?) (hx : w.cell? ⟨g, o, none⟩ = some x) : w'.cell? ⟨g, o, none⟩ = some x := (cell_heap h).trans hx

/-- The list that a value's data have is no part of what must not be written. -/
theorem frozen_q {w w' : World} {g q : Nat} (h : w'.heap[g]? = w.heap[g]?) (hx : w.frozen? ⟨g, q, none⟩ = false) : w'.frozen? ⟨g, q, none⟩ = false := by
  rw [show w'.frozen? ⟨g, q, none⟩ = w.frozen? ⟨g, q, none⟩ by simp [World.frozen?, h]]; exact hx
end Go.Proofs.Ytihmkjlmhjhocaa.Dt
