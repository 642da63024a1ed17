/- For any three numbers the law RetryWaits answers true; the conditions: numbers within their bounds. -/
import Derived.Test.YtihmkjlmhjhocaaYe
namespace Go.Proofs.Ytihmkjlmhjhocaa
open Go.RowKit

theorem wt_pos (k b m : Int) : 0 ≤ wt k b m := by
  unfold wt
  have h2 : 0 ≤ nn b * 2 ^ min k.toNat 64 := Int.mul_nonneg (nn_pos b) (Int.le_of_lt (p2 _))
  have := nn_pos m
  omega
theorem wt_le (k b m : Int) : wt k b m ≤ nn m := by unfold wt; omega
theorem wt_k (k b m : Int) : wt k b m ≤ wt (k + 1) b m := by
  unfold wt
  have h4 : nn b * 2 ^ min k.toNat 64 ≤ nn b * 2 ^ min (k + 1).toNat 64 := Int.mul_le_mul_of_nonneg_left (pow_le' (by omega)) (nn_pos b)
  omega
theorem nn_up (x : Int) : nn x ≤ nn (x + 1) := by unfold nn; split <;> split <;> omega
theorem wt_b (k b m : Int) : wt k b m ≤ wt k (b + 1) m := by
  unfold wt
  have h4 : nn b * 2 ^ min k.toNat 64 ≤ nn (b + 1) * 2 ^ min k.toNat 64 := Int.mul_le_mul_of_nonneg_right (nn_up b) (Int.le_of_lt (p2 _))
  omega
theorem wt_m (k b m : Int) : wt k b m ≤ wt k b (m + 1) := by
  unfold wt
  have := nn_up m
  omega

set_option maxRecDepth 100000 in
set_option maxHeartbeats 2000000 in
theorem law_waits (k b m : Int) (hk : -9223372036854775808 ≤ k ∧ k ≤ 9223372036854775807) (hb : -9223372036854775808 ≤ b ∧ b ≤ 9223372036854775807) (hm : -9223372036854775808 ≤ m ∧ m ≤ 9223372036854775807) (w : World) : Calls Try.prog 6 #[.int .i64 k, .int .i64 b, .int .i64 m] w fun e w' => e = .returned (.bool true) ∧ Below w.heap.size w w' := by
  have BB := Below.refl w.heap.size w
  have f1 := wt_pos k b m
  have f2 : ¬ wt k b m < 0 := by omega
  have f3 : m < 0 → ¬ 0 < wt k b m := fun h => by have := wt_le k b m; rw [show nn m = 0 from if_pos h] at this; omega
  have f4 : 0 ≤ m → ¬ m < wt k b m := fun h => by have := wt_le k b m; rw [show nn m = m from if_neg (by omega)] at this; omega
  have f5 : ¬ wt (k + 1) b m < wt k b m := by have := wt_k k b m; omega
  have f6 : ¬ wt k (b + 1) m < wt k b m := by have := wt_b k b m; omega
  have f7 : ¬ wt k b (m + 1) < wt k b m := by have := wt_m k b m; omega
  go_enter Try.func6, Try.ntmps6
  by_cases hm0 : m < 0
  · have f3 := f3 hm0
    clear f4
    go_wp2_with (first | (go_at_call 15; refine (wait_any _ _ _ (by omega) _).mono ?_; rintro e w1 ⟨rfl, b1⟩; replace BB := BB.trans (b1.mono BB.size); clear b1) | (go_at_call 16; refine (rwait_any _ _ _ (by omega) _).mono ?_; rintro e w2 ⟨rfl, b2⟩; replace BB := BB.trans (b2.mono BB.size); clear b2) | (go_at_call 8; refine (awake_any _).mono ?_; rintro e w3 ⟨rfl, b3⟩; replace BB := BB.trans (b3.mono BB.size); clear b3))
    all_goals go_ret
    all_goals exact ⟨rfl, BB⟩
  · have f4 := f4 (by omega)
    clear f3
    go_wp2_with (first | (go_at_call 15; refine (wait_any _ _ _ (by omega) _).mono ?_; rintro e w1 ⟨rfl, b1⟩; replace BB := BB.trans (b1.mono BB.size); clear b1) | (go_at_call 16; refine (rwait_any _ _ _ (by omega) _).mono ?_; rintro e w2 ⟨rfl, b2⟩; replace BB := BB.trans (b2.mono BB.size); clear b2) | (go_at_call 8; refine (awake_any _).mono ?_; rintro e w3 ⟨rfl, b3⟩; replace BB := BB.trans (b3.mono BB.size); clear b3))
    all_goals go_ret
    all_goals exact ⟨rfl, BB⟩
end Go.Proofs.Ytihmkjlmhjhocaa
