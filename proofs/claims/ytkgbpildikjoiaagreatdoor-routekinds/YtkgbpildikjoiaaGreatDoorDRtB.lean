/- The document's look at each part, at the kinds that have no list: the table's answer; no condition but sizes. -/
import Derived.Test.YtkgbpildikjoiaaGreatDoorDRtA
namespace Go.Proofs.YtkgbpildikjoiaaGreatDoor.Dt
open Go.RowKit

set_option maxRecDepth 100000 in
set_option maxHeartbeats 1000000 in
theorem right6 (i u : Int) (s : ByteArray) (ad : Option Addr) (len cap : Nat) (w : World) (_hs : s.size ≤ maxLen) (_hl : len ≤ maxLen) :
    Calls Tryz.prog 27 #[.agg #[.int .i64 6, .int .i64 i, .int .u64 u, .string s, .slice ad len cap]] w fun e w' => e = .returned (.bool (okB 6 i u s.size len)) ∧ Below w.heap.size w w' := by
  unfold maxLen at _hs _hl
  go_enter Tryz.func27, Tryz.ntmps27
  go_wp2_with fail
  all_goals try (refine wp_loop_rounds 1 ?_; rw [rounds_succ]; go_wp2_with fail)
  all_goals go_ret
  all_goals refine ⟨ret_b ?_, (Below.refl _ w).alloc (Nat.le_refl _) _⟩
  all_goals have hz := nil_size s
  all_goals generalize s.toList = L at *
  all_goals generalize s.size = z at *
  all_goals (simp_all [okB] <;> first | omega | (rw [Bool.eq_iff_iff]; simp; omega))
set_option maxRecDepth 100000 in
set_option maxHeartbeats 1000000 in
theorem right7 (i u : Int) (s : ByteArray) (ad : Option Addr) (len cap : Nat) (w : World) (_hs : s.size ≤ maxLen) (_hl : len ≤ maxLen) :
    Calls Tryz.prog 27 #[.agg #[.int .i64 7, .int .i64 i, .int .u64 u, .string s, .slice ad len cap]] w fun e w' => e = .returned (.bool (okB 7 i u s.size len)) ∧ Below w.heap.size w w' := by
  unfold maxLen at _hs _hl
  go_enter Tryz.func27, Tryz.ntmps27
  go_wp2_with fail
  all_goals try (refine wp_loop_rounds 1 ?_; rw [rounds_succ]; go_wp2_with fail)
  all_goals go_ret
  all_goals refine ⟨ret_b ?_, (Below.refl _ w).alloc (Nat.le_refl _) _⟩
  all_goals have hz := nil_size s
  all_goals generalize s.toList = L at *
  all_goals generalize s.size = z at *
  all_goals (simp_all [okB] <;> first | omega | (rw [Bool.eq_iff_iff]; simp; omega))
set_option maxRecDepth 100000 in
set_option maxHeartbeats 1000000 in
theorem right10 (i u : Int) (s : ByteArray) (ad : Option Addr) (len cap : Nat) (w : World) (_hs : s.size ≤ maxLen) (_hl : len ≤ maxLen) :
    Calls Tryz.prog 27 #[.agg #[.int .i64 10, .int .i64 i, .int .u64 u, .string s, .slice ad len cap]] w fun e w' => e = .returned (.bool (okB 10 i u s.size len)) ∧ Below w.heap.size w w' := by
  unfold maxLen at _hs _hl
  go_enter Tryz.func27, Tryz.ntmps27
  go_wp2_with fail
  all_goals try (refine wp_loop_rounds 1 ?_; rw [rounds_succ]; go_wp2_with fail)
  all_goals go_ret
  all_goals refine ⟨ret_b ?_, (Below.refl _ w).alloc (Nat.le_refl _) _⟩
  all_goals have hz := nil_size s
  all_goals generalize s.toList = L at *
  all_goals generalize s.size = z at *
  all_goals (simp_all [okB] <;> first | omega | (rw [Bool.eq_iff_iff]; simp; omega))
set_option maxRecDepth 100000 in
set_option maxHeartbeats 1000000 in
theorem right12 (i u : Int) (s : ByteArray) (ad : Option Addr) (len cap : Nat) (w : World) (_hs : s.size ≤ maxLen) (_hl : len ≤ maxLen) :
    Calls Tryz.prog 27 #[.agg #[.int .i64 12, .int .i64 i, .int .u64 u, .string s, .slice ad len cap]] w fun e w' => e = .returned (.bool (okB 12 i u s.size len)) ∧ Below w.heap.size w w' := by
  unfold maxLen at _hs _hl
  go_enter Tryz.func27, Tryz.ntmps27
  go_wp2_with fail
  all_goals try (refine wp_loop_rounds 1 ?_; rw [rounds_succ]; go_wp2_with fail)
  all_goals go_ret
  all_goals refine ⟨ret_b ?_, (Below.refl _ w).alloc (Nat.le_refl _) _⟩
  all_goals have hz := nil_size s
  all_goals generalize s.toList = L at *
  all_goals generalize s.size = z at *
  all_goals (simp_all [okB] <;> first | omega | (rw [Bool.eq_iff_iff]; simp; omega))
set_option maxRecDepth 100000 in
set_option maxHeartbeats 1000000 in
theorem right13 (i u : Int) (s : ByteArray) (ad : Option Addr) (len cap : Nat) (w : World) (_hs : s.size ≤ maxLen) (_hl : len ≤ maxLen) :
    Calls Tryz.prog 27 #[.agg #[.int .i64 13, .int .i64 i, .int .u64 u, .string s, .slice ad len cap]] w fun e w' => e = .returned (.bool (okB 13 i u s.size len)) ∧ Below w.heap.size w w' := by
  unfold maxLen at _hs _hl
  go_enter Tryz.func27, Tryz.ntmps27
  go_wp2_with fail
  all_goals try (refine wp_loop_rounds 1 ?_; rw [rounds_succ]; go_wp2_with fail)
  all_goals go_ret
  all_goals refine ⟨ret_b ?_, (Below.refl _ w).alloc (Nat.le_refl _) _⟩
  all_goals have hz := nil_size s
  all_goals generalize s.toList = L at *
  all_goals generalize s.size = z at *
  all_goals (simp_all [okB] <;> first | omega | (rw [Bool.eq_iff_iff]; simp; omega))
set_option maxRecDepth 100000 in
set_option maxHeartbeats 1000000 in
theorem rightNo (k i u : Int) (s : ByteArray) (ad : Option Addr) (len cap : Nat) (w : World) (hk : k < 0 ∨ 13 < k) (_hs : s.size ≤ maxLen) (_hl : len ≤ maxLen) :
    Calls Tryz.prog 27 #[.agg #[.int .i64 k, .int .i64 i, .int .u64 u, .string s, .slice ad len cap]] w fun e w' => e = .returned (.bool (okB k i u s.size len)) ∧ Below w.heap.size w w' := by
  unfold maxLen at _hs _hl
  have h0 : (k == 0) = false := by simp; omega
  have h1 : (k == 1) = false := by simp; omega
  have h2 : (k == 2) = false := by simp; omega
  have h3 : (k == 3) = false := by simp; omega
  have h4 : (k == 4) = false := by simp; omega
  have h5 : (k == 5) = false := by simp; omega
  have h6 : (k == 6) = false := by simp; omega
  have h7 : (k == 7) = false := by simp; omega
  have h8 : (k == 8) = false := by simp; omega
  have h9 : (k == 9) = false := by simp; omega
  have h10 : (k == 10) = false := by simp; omega
  have h11 : (k == 11) = false := by simp; omega
  have h12 : (k == 12) = false := by simp; omega
  have h13 : (k == 13) = false := by simp; omega
  have ho : okB k i u s.size len = false := by
    have n0 : k ≠ 0 := by omega
    have n1 : k ≠ 1 := by omega
    have n2 : k ≠ 2 := by omega
    have n3 : k ≠ 3 := by omega
    have n4 : k ≠ 4 := by omega
    have n5 : k ≠ 5 := by omega
    have n6 : k ≠ 6 := by omega
    have n7 : k ≠ 7 := by omega
    have n8 : k ≠ 8 := by omega
    have n9 : k ≠ 9 := by omega
    have n10 : k ≠ 10 := by omega
    have n11 : k ≠ 11 := by omega
    have n12 : k ≠ 12 := by omega
    have n13 : k ≠ 13 := by omega
    simp [okB, n0, n1, n2, n3, n4, n5, n6, n7, n8, n9, n10, n11, n12, n13]
  rw [ho]
  clear hk ho
  go_enter Tryz.func27, Tryz.ntmps27
  go_wp2_with fail
  go_ret
  exact ⟨rfl, (Below.refl _ w).alloc (Nat.le_refl _) _⟩
end Go.Proofs.YtkgbpildikjoiaaGreatDoor.Dt
