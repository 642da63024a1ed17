/- Whether a result is worth another try: the package's answer and the document's, each by one plain function; no condition. -/
import Derived.Test.YtihmkjlmhjhocaaBase
namespace Go.Proofs.Ytihmkjlmhjhocaa
open Go.RowKit

/-- A panic that may be gone the next time. -/
def mayB (k : Int) : Bool := k == 1 || k == 3 || k == 4 || k == 6 || k == 7
/-- A result that is worth another try. -/
def agB (er co pk : Int) : Bool := if er = 100 then decide (0 ≤ co) else if er = 101 ∨ er = 130 ∨ er = 140 then true else if er = 110 then mayB pk else false

set_option maxRecDepth 100000 in
set_option maxHeartbeats 1000000 in
theorem mayPass_any (k : Int) (w : World) : Calls Try.prog 19 #[.int .i64 k] w fun e w' => e = .returned (.bool (mayB k)) ∧ Below w.heap.size w w' := by
  go_enter Try.func19, Try.ntmps19
  go_wp2
  all_goals go_ret
  all_goals (refine ⟨?_, Below.refl _ _⟩; simp_all [mayB])

set_option maxRecDepth 100000 in
set_option maxHeartbeats 1000000 in
theorem again_any (er co pk pn : Int) (has : Bool) (v5 v6 v7 v8 v9 : Value) (w : World) : Calls Try.prog 9 #[.agg #[.int .i64 er, .int .i64 co, .int .i64 pk, .int .i64 pn, .bool has, v5, v6, v7, v8, v9]] w fun e w' => e = .returned (.bool (agB er co pk)) ∧ Below w.heap.size w w' := by
  go_enter Try.func9, Try.ntmps9
  go_wp2_with (go_at_call 19; refine (mayPass_any pk _).mono ?_; rintro e w1 ⟨rfl, b1⟩)
  all_goals go_ret
  all_goals (refine ⟨?_, by first | exact below1 _ _ | exact (below1 _ _).trans (b1.mono (by simp))⟩; simp_all [agB])

set_option maxRecDepth 100000 in
set_option maxHeartbeats 1000000 in
theorem ragain_any (er co pk pn : Int) (has : Bool) (v5 v6 v7 v8 v9 : Value) (w : World) : Calls Try.prog 10 #[.agg #[.int .i64 er, .int .i64 co, .int .i64 pk, .int .i64 pn, .bool has, v5, v6, v7, v8, v9]] w fun e w' => e = .returned (.bool (agB er co pk)) ∧ Below w.heap.size w w' := by
  go_enter Try.func10, Try.ntmps10
  go_wp2
  all_goals go_ret
  all_goals (refine ⟨?_, by first | exact below1 _ _⟩; simp_all [agB, mayB])
end Go.Proofs.Ytihmkjlmhjhocaa
