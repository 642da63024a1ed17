/- A breaker's phases, what passes and what a bad result leads to; no condition but those that each theorem names. -/
import Derived.Test.YtdmjhjfieabbbaaRows
import Derived.WalkKit
import Derived.WalkSpells
import Derived.WalkLawsBesides
import Derived.Deep.QuietTactic
import Derived.BigQuiet
import Derived.Stop.Asserts
import Derived.Deep.RegionHeld3
import Derived.Lib.Hide
import Derived.Laws.IdiomStrings
namespace Go.Proofs.Ytdmjhjfieabbbaa
open Go.RowKit

/-- Whether a result is good, bad or neither. -/
def kd (er : Int) : Int := if er = 0 then 1 else if er = 100 ∨ er = 101 ∨ er = 110 then -1 else 0
/-- What a breaker is at a tick. -/
def sta (f u a n : Int) : Int := if f < a then 0 else if n < u then 1 else 2
def brk (f u : Int) : Value := .agg #[.int .i64 f, .int .i64 u]
def pha (f u a n : Int) : Value := if f < a then .iface 52 (.agg #[.int .i64 f, .int .i64 u, .int .i64 a]) else if n < u then .iface 48 (.agg #[.int .i64 f, .int .i64 u]) else .iface 49 (.agg #[.int .i64 f, .int .i64 u])

set_option maxRecDepth 100000 in
set_option maxHeartbeats 1000000 in
theorem kind_any (er : Int) (v1 v2 v3 v4 v5 v6 v7 v8 v9 : Value) (w : World) : Calls Try.prog 6 #[.agg #[.int .i64 er, v1, v2, v3, v4, v5, v6, v7, v8, v9]] w fun e w' => e = .returned (.int .i64 (kd er)) ∧ ∃ o, w' = w.alloc o := by
  go_enter Try.func6, Try.ntmps6
  go_wp2
  all_goals go_ret
  all_goals (refine ⟨?_, _, rfl⟩; simp_all [kd])

set_option maxRecDepth 100000 in
set_option maxHeartbeats 1000000 in
theorem rkind_any (er : Int) (v1 v2 v3 v4 v5 v6 v7 v8 v9 : Value) (w : World) : Calls Try.prog 7 #[.agg #[.int .i64 er, v1, v2, v3, v4, v5, v6, v7, v8, v9]] w fun e w' => e = .returned (.int .i64 (kd er)) ∧ ∃ o, w' = w.alloc o := by
  go_enter Try.func7, Try.ntmps7
  go_wp2
  all_goals go_ret
  all_goals (refine ⟨?_, _, rfl⟩; simp_all [kd])

set_option maxRecDepth 100000 in
set_option maxHeartbeats 1000000 in
theorem phase_any (f u a n : Int) (w : World) : Calls Try.prog 17 #[.agg #[.int .i64 f, .int .i64 u], .int .i64 a, .int .i64 n] w fun e w' => e = .returned (pha f u a n) ∧ ∃ o, w' = w.alloc o := by
  unfold pha
  by_cases h1 : f < a
  · rw [if_pos h1]
    go_enter Try.func17, Try.ntmps17
    go_wp2
    go_ret
    exact ⟨rfl, _, rfl⟩
  · rw [if_neg h1]
    by_cases h2 : n < u
    · rw [if_pos h2]
      go_enter Try.func17, Try.ntmps17
      go_wp2
      go_ret
      exact ⟨rfl, _, rfl⟩
    · rw [if_neg h2]
      go_enter Try.func17, Try.ntmps17
      go_wp2
      go_ret
      exact ⟨rfl, _, rfl⟩
end Go.Proofs.Ytdmjhjfieabbbaa
