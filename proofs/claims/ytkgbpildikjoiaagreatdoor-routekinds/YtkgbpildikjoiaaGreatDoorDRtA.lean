/- The document's look at each part, at the kinds that have no list: the table's answer; no condition but sizes. -/
import Derived.Test.YtkgbpildikjoiaaGreatDoorDCount
namespace Go.Proofs.YtkgbpildikjoiaaGreatDoor.Dt
open Go.RowKit

set_option maxRecDepth 100000 in
set_option maxHeartbeats 1000000 in
theorem right0 (i u : Int) (s : ByteArray) (ad : Option Addr) (len cap : Nat) (w : World) (_hs : s.size ≤ maxLen) (_hl : len ≤ maxLen) :
    Calls Tryz.prog 27 #[.agg #[.int .i64 0, .int .i64 i, .int .u64 u, .string s, .slice ad len cap]] w fun e w' => e = .returned (.bool (okB 0 i u s.size len)) ∧ Below w.heap.size w w' := by
  unfold maxLen at _hs _hl
  go_enter Tryz.func27, Tryz.ntmps27
  go_wp2_with fail
  all_goals try (refine wp_loop_rounds 1 ?_; rw [rounds_succ]; go_wp2_with fail)
  all_goals go_ret
  all_goals refine ⟨ret_b ?_, (Below.refl _ w).alloc (Nat.le_refl _) _⟩
  all_goals have hz := nil_size s
  all_goals generalize s.toList = L at *
  all_goals generalize s.size = z at *
  all_goals (simp_all [okB] <;> first | omega | (rw [Bool.eq_iff_iff]; simp; omega))
set_option maxRecDepth 100000 in
set_option maxHeartbeats 1000000 in
theorem right1 (i u : Int) (s : ByteArray) (ad : Option Addr) (len cap : Nat) (w : World) (_hs : s.size ≤ maxLen) (_hl : len ≤ maxLen) :
    Calls Tryz.prog 27 #[.agg #[.int .i64 1, .int .i64 i, .int .u64 u, .string s, .slice ad len cap]] w fun e w' => e = .returned (.bool (okB 1 i u s.size len)) ∧ Below w.heap.size w w' := by
  unfold maxLen at _hs _hl
  go_enter Tryz.func27, Tryz.ntmps27
  go_wp2_with fail
  all_goals try (refine wp_loop_rounds 1 ?_; rw [rounds_succ]; go_wp2_with fail)
  all_goals go_ret
  all_goals refine ⟨ret_b ?_, (Below.refl _ w).alloc (Nat.le_refl _) _⟩
  all_goals have hz := nil_size s
  all_goals generalize s.toList = L at *
  all_goals generalize s.size = z at *
  all_goals (simp_all [okB] <;> first | omega | (rw [Bool.eq_iff_iff]; simp; omega))
set_option maxRecDepth 100000 in
set_option maxHeartbeats 1000000 in
theorem right2 (i u : Int) (s : ByteArray) (ad : Option Addr) (len cap : Nat) (w : World) (_hs : s.size ≤ maxLen) (_hl : len ≤ maxLen) :
    Calls Tryz.prog 27 #[.agg #[.int .i64 2, .int .i64 i, .int .u64 u, .string s, .slice ad len cap]] w fun e w' => e = .returned (.bool (okB 2 i u s.size len)) ∧ Below w.heap.size w w' := by
  unfold maxLen at _hs _hl
  go_enter Tryz.func27, Tryz.ntmps27
  go_wp2_with fail
  all_goals try (refine wp_loop_rounds 1 ?_; rw [rounds_succ]; go_wp2_with fail)
  all_goals go_ret
  all_goals refine ⟨ret_b ?_, (Below.refl _ w).alloc (Nat.le_refl _) _⟩
  all_goals have hz := nil_size s
  all_goals generalize s.toList = L at *
  all_goals generalize s.size = z at *
  all_goals (simp_all [okB] <;> first | omega | (rw [Bool.eq_iff_iff]; simp; omega))
set_option maxRecDepth 100000 in
set_option maxHeartbeats 1000000 in
theorem right3 (i u : Int) (s : ByteArray) (ad : Option Addr) (len cap : Nat) (w : World) (_hs : s.size ≤ maxLen) (_hl : len ≤ maxLen) :
    Calls Tryz.prog 27 #[.agg #[.int .i64 3, .int .i64 i, .int .u64 u, .string s, .slice ad len cap]] w fun e w' => e = .returned (.bool (okB 3 i u s.size len)) ∧ Below w.heap.size w w' := by
  unfold maxLen at _hs _hl
  go_enter Tryz.func27, Tryz.ntmps27
  go_wp2_with fail
  all_goals try (refine wp_loop_rounds 1 ?_; rw [rounds_succ]; go_wp2_with fail)
  all_goals go_ret
  all_goals refine ⟨ret_b ?_, (Below.refl _ w).alloc (Nat.le_refl _) _⟩
  all_goals have hz := nil_size s
  all_goals generalize s.toList = L at *
  all_goals generalize s.size = z at *
  all_goals (simp_all [okB] <;> first | omega | (rw [Bool.eq_iff_iff]; simp; omega))
set_option maxRecDepth 100000 in
set_option maxHeartbeats 1000000 in
theorem right4 (i u : Int) (s : ByteArray) (ad : Option Addr) (len cap : Nat) (w : World) (_hs : s.size ≤ maxLen) (_hl : len ≤ maxLen) :
    Calls Tryz.prog 27 #[.agg #[.int .i64 4, .int .i64 i, .int .u64 u, .string s, .slice ad len cap]] w fun e w' => e = .returned (.bool (okB 4 i u s.size len)) ∧ Below w.heap.size w w' := by
  unfold maxLen at _hs _hl
  go_enter Tryz.func27, Tryz.ntmps27
  go_wp2_with fail
  all_goals try (refine wp_loop_rounds 1 ?_; rw [rounds_succ]; go_wp2_with fail)
  all_goals go_ret
  all_goals refine ⟨ret_b ?_, (Below.refl _ w).alloc (Nat.le_refl _) _⟩
  all_goals have hz := nil_size s
  all_goals generalize s.toList = L at *
  all_goals generalize s.size = z at *
  all_goals (simp_all [okB] <;> first | omega | (rw [Bool.eq_iff_iff]; simp; omega))
set_option maxRecDepth 100000 in
set_option maxHeartbeats 1000000 in
theorem right5 (i u : Int) (s : ByteArray) (ad : Option Addr) (len cap : Nat) (w : World) (_hs : s.size ≤ maxLen) (_hl : len ≤ maxLen) :
    Calls Tryz.prog 27 #[.agg #[.int .i64 5, .int .i64 i, .int .u64 u, .string s, .slice ad len cap]] w fun e w' => e = .returned (.bool (okB 5 i u s.size len)) ∧ Below w.heap.size w w' := by
  unfold maxLen at _hs _hl
  go_enter Tryz.func27, Tryz.ntmps27
  go_wp2_with fail
  all_goals try (refine wp_loop_rounds 1 ?_; rw [rounds_succ]; go_wp2_with fail)
  all_goals go_ret
  all_goals refine ⟨ret_b ?_, (Below.refl _ w).alloc (Nat.le_refl _) _⟩
  all_goals have hz := nil_size s
  all_goals generalize s.toList = L at *
  all_goals generalize s.size = z at *
  all_goals (simp_all [okB] <;> first | omega | (rw [Bool.eq_iff_iff]; simp; omega))
end Go.Proofs.YtkgbpildikjoiaaGreatDoor.Dt
