/- The package's look at one part of a pattern, and the document's walk over the parts: each as the plain functions say it; the conditions: the pattern's tree in memory. -/
import Derived.Test.YtokiaolgdkikiaaGreatMthP
namespace Go.Proofs.YtokiaolgdkikiaaGreat
open Go.RowKit

set_option maxRecDepth 100000 in
set_option maxHeartbeats 1000000 in
theorem wellFormed1 (m : Int) (ad : Option Addr) (len cap : Nat) (w : World) : Calls Tryz.prog 52 #[.agg #[.int .i64 1, .int .i64 m, .slice ad len cap]] w fun e w' => e = .returned (.bool (okW 1 m len)) ∧ Below w.heap.size w w' := by
  go_enter Tryz.func52, Tryz.ntmps52
  go_wp2
  all_goals go_ret
  all_goals refine ⟨ret_b ?_, below1 w _⟩
  all_goals (simp_all [okW] <;> first | omega | (rw [Bool.eq_iff_iff]; simp; done) | (rw [Bool.eq_iff_iff]; simp; omega))
set_option maxRecDepth 100000 in
set_option maxHeartbeats 1000000 in
theorem wellFormed2 (m : Int) (ad : Option Addr) (len cap : Nat) (w : World) : Calls Tryz.prog 52 #[.agg #[.int .i64 2, .int .i64 m, .slice ad len cap]] w fun e w' => e = .returned (.bool (okW 2 m len)) ∧ Below w.heap.size w w' := by
  have HK := Lib.hid (isKind_any m)
  by_cases h : 0 ≤ m ∧ m < 14
  · rw [decide_eq_true h] at HK
    have e : okW 2 m len = decide (len = 0) := by simp [okW, h.1, h.2]
    rw [e]; clear e h
    go_enter Tryz.func52, Tryz.ntmps52
    go_wp2_with fail
    refine (HK.out _).mono ?_
    rintro e w0 ⟨rfl, hw0⟩
    have b0 : Below w.heap.size w w0 := by rw [hw0]; exact below1 w _
    clear hw0
    go_wp2
    all_goals go_ret
    all_goals refine ⟨ret_b ?_, b0⟩
    all_goals first | rfl | (simp; done) | (rw [Bool.eq_iff_iff]; simp; done) | (rw [Bool.eq_iff_iff]; simp; omega) | (simp_all <;> omega)
  · rw [decide_eq_false h] at HK
    have e : okW 2 m len = false := by simp only [okW]; simp; intro h1 h2; omega
    rw [e]; clear e h
    go_enter Tryz.func52, Tryz.ntmps52
    go_wp2_with fail
    refine (HK.out _).mono ?_
    rintro e w0 ⟨rfl, hw0⟩
    have b0 : Below w.heap.size w w0 := by rw [hw0]; exact below1 w _
    clear hw0
    go_wp2
    go_ret
    exact ⟨rfl, b0⟩
set_option maxRecDepth 100000 in
set_option maxHeartbeats 1000000 in
theorem wellFormed3 (m : Int) (ad : Option Addr) (len cap : Nat) (w : World) : Calls Tryz.prog 52 #[.agg #[.int .i64 3, .int .i64 m, .slice ad len cap]] w fun e w' => e = .returned (.bool (okW 3 m len)) ∧ Below w.heap.size w w' := by
  go_enter Tryz.func52, Tryz.ntmps52
  go_wp2
  all_goals go_ret
  all_goals refine ⟨ret_b ?_, below1 w _⟩
  all_goals (simp_all [okW] <;> first | omega | (rw [Bool.eq_iff_iff]; simp; done) | (rw [Bool.eq_iff_iff]; simp; omega))
set_option maxRecDepth 100000 in
set_option maxHeartbeats 1000000 in
theorem wellFormed4 (m : Int) (ad : Option Addr) (len cap : Nat) (w : World) : Calls Tryz.prog 52 #[.agg #[.int .i64 4, .int .i64 m, .slice ad len cap]] w fun e w' => e = .returned (.bool (okW 4 m len)) ∧ Below w.heap.size w w' := by
  go_enter Tryz.func52, Tryz.ntmps52
  go_wp2
  all_goals go_ret
  all_goals refine ⟨ret_b ?_, below1 w _⟩
  all_goals (simp_all [okW] <;> first | omega | (rw [Bool.eq_iff_iff]; simp; done) | (rw [Bool.eq_iff_iff]; simp; omega))
set_option maxRecDepth 100000 in
set_option maxHeartbeats 1000000 in
theorem wellFormed5 (m : Int) (ad : Option Addr) (len cap : Nat) (w : World) : Calls Tryz.prog 52 #[.agg #[.int .i64 5, .int .i64 m, .slice ad len cap]] w fun e w' => e = .returned (.bool (okW 5 m len)) ∧ Below w.heap.size w w' := by
  go_enter Tryz.func52, Tryz.ntmps52
  go_wp2
  all_goals go_ret
  all_goals refine ⟨ret_b ?_, below1 w _⟩
  all_goals (simp_all [okW] <;> first | omega | (rw [Bool.eq_iff_iff]; simp; done) | (rw [Bool.eq_iff_iff]; simp; omega))
set_option maxRecDepth 100000 in
set_option maxHeartbeats 1000000 in
theorem wellFormed6 (m : Int) (ad : Option Addr) (len cap : Nat) (w : World) : Calls Tryz.prog 52 #[.agg #[.int .i64 6, .int .i64 m, .slice ad len cap]] w fun e w' => e = .returned (.bool (okW 6 m len)) ∧ Below w.heap.size w w' := by
  go_enter Tryz.func52, Tryz.ntmps52
  go_wp2
  all_goals go_ret
  all_goals refine ⟨ret_b ?_, below1 w _⟩
  all_goals (simp_all [okW] <;> first | omega | (rw [Bool.eq_iff_iff]; simp; done) | (rw [Bool.eq_iff_iff]; simp; omega))
set_option maxRecDepth 100000 in
set_option maxHeartbeats 1000000 in
theorem wellFormed_any (o m : Int) (ad : Option Addr) (len cap : Nat) (w : World) : Calls Tryz.prog 52 #[.agg #[.int .i64 o, .int .i64 m, .slice ad len cap]] w fun e w' => e = .returned (.bool (okW o m len)) ∧ Below w.heap.size w w' := by
  by_cases h1 : o = 1
  · subst h1; exact wellFormed1 m ad len cap w
  by_cases h2 : o = 2
  · subst h2; exact wellFormed2 m ad len cap w
  by_cases h3 : o = 3
  · subst h3; exact wellFormed3 m ad len cap w
  by_cases h4 : o = 4
  · subst h4; exact wellFormed4 m ad len cap w
  by_cases h5 : o = 5
  · subst h5; exact wellFormed5 m ad len cap w
  by_cases h6 : o = 6
  · subst h6; exact wellFormed6 m ad len cap w
  have e : okW o m len = false := by simp [okW, h1, h2, h3, h4, h5, h6]
  rw [e]; clear e
  have g1 : (o == 1) = false := by simpa using h1
  have g2 : (o == 2) = false := by simpa using h2
  have g3 : (o == 3) = false := by simpa using h3
  have g4 : (o == 4) = false := by simpa using h4
  have g5 : (o == 5) = false := by simpa using h5
  have g6 : (o == 6) = false := by simpa using h6
  clear h1 h2 h3 h4 h5 h6
  go_enter Tryz.func52, Tryz.ntmps52
  go_wp2
  go_ret
  exact ⟨rfl, below1 w _⟩
end Go.Proofs.YtokiaolgdkikiaaGreat
