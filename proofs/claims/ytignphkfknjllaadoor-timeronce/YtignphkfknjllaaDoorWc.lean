/- The first bit of a word; plain numbers, no condition but those that each theorem names. -/
namespace Go.Proofs.YtignphkfknjllaaDoor

/-- The least bit of a word that is not none. -/
def tz : Nat → Nat → Nat
  | 0, _ => 0
  | f + 1, x => if x % 2 = 1 then 0 else 1 + tz f (x / 2)
theorem tz_spec : ∀ (f x : Nat), x ≠ 0 → x < 2 ^ f → tz f x < f ∧ ∃ j, x = 2 ^ tz f x * (2 * j + 1)
  | 0, x, h0, h => by simp at h; omega
  | f + 1, x, h0, h => by
    unfold tz
    by_cases h1 : x % 2 = 1
    · rw [if_pos h1]
      exact ⟨by omega, x / 2, by simp; omega⟩
    · rw [if_neg h1]
      obtain ⟨a, j, b⟩ := tz_spec f (x / 2) (by omega) (by rw [Nat.pow_succ] at h; omega)
      refine ⟨by omega, j, ?_⟩
      rw [Nat.add_comm 1, Nat.pow_succ, Nat.mul_comm (2 ^ tz f (x / 2)), Nat.mul_assoc, ← b]
      omega
theorem tz_bit {x i j : Nat} (h : x = 2 ^ i * (2 * j + 1)) (k : Nat) : x.testBit k = (if k < i then false else if k = i then true else j.testBit (k - i - 1)) := by
  rw [h, Nat.testBit_two_pow_mul]
  by_cases h1 : k < i
  · rw [if_pos h1]; simp; omega
  · rw [if_neg h1]
    by_cases h2 : k = i
    · subst h2; simp
    · rw [if_neg h2, show k - i = k - i - 1 + 1 by omega, Nat.testBit_succ, show (2 * j + 1) / 2 = j by omega]
      simp; omega
theorem and_neg {x i j : Nat} (h : x = 2 ^ i * (2 * j + 1)) (hx : x < 2 ^ 64) (hi : i < 64) : x &&& (2 ^ 64 - x) = 2 ^ i := by
  have hp := Nat.two_pow_pos i
  have h0 : 0 < x := by rw [h]; exact Nat.mul_pos hp (by omega)
  apply Nat.eq_of_testBit_eq
  intro k
  rw [Nat.testBit_and, show 2 ^ 64 - x = 2 ^ 64 - ((x - 1) + 1) by omega, Nat.testBit_two_pow_sub_succ (by omega), tz_bit h k, Nat.testBit_two_pow]
  have h1 : x - 1 = 2 ^ i * (2 * j) + (2 ^ i - 1) := by rw [h, Nat.mul_add]; omega
  rw [h1, Nat.testBit_two_pow_mul_add _ (by omega)]
  by_cases c1 : k < i
  · rw [if_pos c1, if_pos c1]
    simp; omega
  · rw [if_neg c1, if_neg c1]
    by_cases c2 : k = i
    · subst c2; simp; omega
    · obtain ⟨m, rfl⟩ : ∃ m, k = i + (m + 1) := ⟨k - i - 1, by omega⟩
      rw [if_neg c2, show i + (m + 1) - i = m + 1 by omega, Nat.testBit_succ, show 2 * j / 2 = j by omega, show m + 1 - 1 = m by omega]
      have : decide (i = i + (m + 1)) = false := by simp
      rw [this]
      generalize j.testBit m = t
      cases t <;> simp
/-- The table of the least bits. -/
def bru : List Nat := [0, 1, 56, 2, 57, 49, 28, 3, 61, 58, 42, 50, 38, 29, 17, 4, 62, 47, 59, 36, 45, 43, 51, 22, 53, 39, 33, 30, 24, 18, 12, 5, 63, 55, 48, 27, 60, 41, 37, 16, 46, 35, 44, 21, 52, 32, 23, 11, 54, 26, 40, 15, 34, 20, 31, 10, 25, 14, 19, 9, 13, 8, 7, 6]
theorem bru_at : ∀ i : Fin 64, bru[2 ^ i.val * 285870213051353865 % 18446744073709551616 / 2 ^ 58]? = some i.val := by decide +kernel
/-- The least bit is the first one that is set. -/
theorem tz_first {x : Nat} (h0 : x ≠ 0) (hx : x < 2 ^ 64) : tz 64 x < 64 ∧ x.testBit (tz 64 x) = true ∧ ∀ k, k < tz 64 x → x.testBit k = false := by
  obtain ⟨a, j, b⟩ := tz_spec 64 x h0 hx
  refine ⟨a, ?_, fun k hk => ?_⟩
  · rw [tz_bit b]; simp
  · rw [tz_bit b, if_pos hk]
attribute [irreducible] tz
end Go.Proofs.YtignphkfknjllaaDoor
