/- For any numbers, tick and results the law BreakerOpens answers true; the conditions: the rows read. -/
import Derived.Test.YtdmjhjfieabbbaaLawP
namespace Go.Proofs.Ytdmjhjfieabbbaa
open Go.RowKit

set_option maxRecDepth 100000 in
set_option maxHeartbeats 4000000 in
theorem law_opens (a b n : Int) (ad1 : Option Addr) (zs : List Int) (cap1 : Nat) (ad2 : Option Addr) (ns : List Int) (cap2 : Nat) (w : World) (hz : Ints w ad1 zs) (hns : Ints w ad2 ns) :
    Calls Try.prog 5 #[.int .i64 a, .int .i64 b, .int .i64 n, .slice ad1 zs.length cap1, .slice ad2 ns.length cap2] w fun e w' => e = .returned (.bool true) ∧ Gw w w' := by
  have KF := Lib.hid (fun w' => fit_any 0 0 a b n w')
  by_cases hf : 1 ≤ a ∧ a ≤ 1000 ∧ 1 ≤ b ∧ b ≤ 1000000 ∧ 0 ≤ n ∧ n ≤ 1099511627776
  · by_cases h5 : a ≤ 50
    · by_cases hn : n + b ≤ 1099511627776
      · exact opens_in a b n ad1 ad2 zs ns cap1 cap2 w hz hns hf.1 h5 hf.2.2.1 hf.2.2.2.1 hf.2.2.2.2.1 hn
      · rw [show fitA 0 0 a b n = true by simp [fitA, fitB]; omega] at KF
        go_enter Try.func5, Try.ntmps5
        go_wp2_with (first | (go_at_call 8; refine (KF.out _).mono ?_; rintro e w1 ⟨rfl, g1⟩) | (go_at_call 9; with_reducible refine (awake_any _).mono ?_; rintro e w2 ⟨rfl, g2⟩))
        go_ret
        exact ⟨rfl, g1.trans g2⟩
    · rw [show fitA 0 0 a b n = true by simp [fitA, fitB]; omega] at KF
      go_enter Try.func5, Try.ntmps5
      go_wp2_with (first | (go_at_call 8; refine (KF.out _).mono ?_; rintro e w1 ⟨rfl, g1⟩) | (go_at_call 9; with_reducible refine (awake_any _).mono ?_; rintro e w2 ⟨rfl, g2⟩))
      go_ret
      exact ⟨rfl, g1.trans g2⟩
  · rw [show fitA 0 0 a b n = false by unfold fitA; rw [decide_eq_false hf]; rfl] at KF
    clear hf
    go_enter Try.func5, Try.ntmps5
    go_wp2_with (first | (go_at_call 8; refine (KF.out _).mono ?_; rintro e w1 ⟨rfl, g1⟩) | (go_at_call 9; with_reducible refine (awake_any _).mono ?_; rintro e w2 ⟨rfl, g2⟩))
    go_ret
    exact ⟨rfl, g1.trans g2⟩
end Go.Proofs.Ytdmjhjfieabbbaa
