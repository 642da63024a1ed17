/- State, Ask and Done of the package; the conditions: numbers within their bounds. -/
import Derived.Test.YtdmjhjfieabbbaaBa
namespace Go.Proofs.Ytdmjhjfieabbbaa
open Go.RowKit

theorem ta_so (f u a : Int) (w : World) : (Instr.typeAssert (.iface 52 (.agg #[.int .i64 f, .int .i64 u, .int .i64 a])) 45 48 true).run Try.prog w = .ok (.tuple #[.agg #[.int .i64 0, .int .i64 0], .bool false]) w := by kernel_rfl
theorem ta_sh (f u a : Int) (w : World) : (Instr.typeAssert (.iface 52 (.agg #[.int .i64 f, .int .i64 u, .int .i64 a])) 45 49 true).run Try.prog w = .ok (.tuple #[.agg #[.int .i64 0, .int .i64 0], .bool false]) w := by kernel_rfl
theorem ta_oo (f u : Int) (w : World) : (Instr.typeAssert (.iface 48 (.agg #[.int .i64 f, .int .i64 u])) 45 48 true).run Try.prog w = .ok (.tuple #[.agg #[.int .i64 f, .int .i64 u], .bool true]) w := by kernel_rfl
theorem ta_ho (f u : Int) (w : World) : (Instr.typeAssert (.iface 49 (.agg #[.int .i64 f, .int .i64 u])) 45 48 true).run Try.prog w = .ok (.tuple #[.agg #[.int .i64 0, .int .i64 0], .bool false]) w := by kernel_rfl
theorem ta_hh (f u : Int) (w : World) : (Instr.typeAssert (.iface 49 (.agg #[.int .i64 f, .int .i64 u])) 45 49 true).run Try.prog w = .ok (.tuple #[.agg #[.int .i64 f, .int .i64 u], .bool true]) w := by kernel_rfl
theorem me_sp (v : Value) (w : World) : (method 170 52 v "conduit/breaker.passes").run Try.prog w = .ok (39, v) w := by kernel_rfl
theorem me_op (v : Value) (w : World) : (method 170 48 v "conduit/breaker.passes").run Try.prog w = .ok (35, v) w := by kernel_rfl
theorem me_hp (v : Value) (w : World) : (method 170 49 v "conduit/breaker.passes").run Try.prog w = .ok (37, v) w := by kernel_rfl
theorem me_sf (v : Value) (w : World) : (method 170 52 v "conduit/breaker.failed").run Try.prog w = .ok (38, v) w := by kernel_rfl
theorem me_of (v : Value) (w : World) : (method 170 48 v "conduit/breaker.failed").run Try.prog w = .ok (34, v) w := by kernel_rfl
theorem me_hf (v : Value) (w : World) : (method 170 49 v "conduit/breaker.failed").run Try.prog w = .ok (36, v) w := by kernel_rfl
theorem cf_sp (xs : Array Value) (w : World) : (callFunc 39 xs).run Try.prog w = .ok (.enter 39 xs) w := by kernel_rfl
theorem cf_op (xs : Array Value) (w : World) : (callFunc 35 xs).run Try.prog w = .ok (.enter 35 xs) w := by kernel_rfl
theorem cf_hp (xs : Array Value) (w : World) : (callFunc 37 xs).run Try.prog w = .ok (.enter 37 xs) w := by kernel_rfl
theorem cf_sf (xs : Array Value) (w : World) : (callFunc 38 xs).run Try.prog w = .ok (.enter 38 xs) w := by kernel_rfl
theorem cf_of (xs : Array Value) (w : World) : (callFunc 34 xs).run Try.prog w = .ok (.enter 34 xs) w := by kernel_rfl
theorem cf_hf (xs : Array Value) (w : World) : (callFunc 36 xs).run Try.prog w = .ok (.enter 36 xs) w := by kernel_rfl

set_option maxRecDepth 100000 in
set_option maxHeartbeats 1000000 in
theorem state_any (f u a n : Int) (w : World) : Calls Try.prog 10 #[.agg #[.int .i64 f, .int .i64 u], .int .i64 a, .int .i64 n] w fun e w' => e = .returned (.int .i64 (sta f u a n)) ∧ ∃ o p, w' = (w.alloc o).alloc p := by
  have K := Lib.hid (fun w' => phase_any f u a n w')
  unfold pha at K
  unfold sta
  have t1 := ta_so f u a; have t2 := ta_sh f u a; have t3 := ta_oo f u; have t4 := ta_ho f u; have t5 := ta_hh f u
  by_cases h1 : f < a
  · rw [if_pos h1] at K ⊢
    go_enter Try.func10, Try.ntmps10
    go_wp2_with (go_at_call 17; refine (K.out _).mono ?_; rintro e w1 ⟨rfl, o, rfl⟩)
    go_ret
    exact ⟨rfl, _, _, rfl⟩
  · rw [if_neg h1] at K ⊢
    by_cases h2 : n < u
    · rw [if_pos h2] at K ⊢
      go_enter Try.func10, Try.ntmps10
      go_wp2_with (go_at_call 17; refine (K.out _).mono ?_; rintro e w1 ⟨rfl, o, rfl⟩)
      go_ret
      exact ⟨rfl, _, _, rfl⟩
    · rw [if_neg h2] at K ⊢
      go_enter Try.func10, Try.ntmps10
      go_wp2_with (go_at_call 17; refine (K.out _).mono ?_; rintro e w1 ⟨rfl, o, rfl⟩)
      go_ret
      exact ⟨rfl, _, _, rfl⟩

theorem sp_any (v0 v1 v2 : Value) (w : World) : Calls Try.prog 39 #[.agg #[v0, v1, v2]] w fun e w' => e = .returned (.bool true) ∧ ∃ o, w' = w.alloc o := by
  go_enter Try.func39, Try.ntmps39
  go_wp2
  go_ret
  exact ⟨rfl, _, rfl⟩
theorem op_any (v0 v1 : Value) (w : World) : Calls Try.prog 35 #[.agg #[v0, v1]] w fun e w' => e = .returned (.bool false) ∧ ∃ o, w' = w.alloc o := by
  go_enter Try.func35, Try.ntmps35
  go_wp2
  go_ret
  exact ⟨rfl, _, rfl⟩
theorem hp_any (v0 v1 : Value) (w : World) : Calls Try.prog 37 #[.agg #[v0, v1]] w fun e w' => e = .returned (.bool true) ∧ ∃ o, w' = w.alloc o := by
  go_enter Try.func37, Try.ntmps37
  go_wp2
  go_ret
  exact ⟨rfl, _, rfl⟩

set_option maxRecDepth 100000 in
set_option maxHeartbeats 1000000 in
theorem ask_any (f u a n : Int) (w : World) : Calls Try.prog 12 #[.agg #[.int .i64 f, .int .i64 u], .int .i64 a, .int .i64 n] w fun e w' => e = .returned (.bool (!(sta f u a n == 1))) ∧ ∃ o p q, w' = ((w.alloc o).alloc p).alloc q := by
  have K := Lib.hid (fun w' => phase_any f u a n w')
  unfold pha at K
  unfold sta
  have m1 := me_sp; have m2 := me_op; have m3 := me_hp
  have c1 := cf_sp; have c2 := cf_op; have c3 := cf_hp
  by_cases h1 : f < a
  · rw [if_pos h1] at K ⊢
    go_enter Try.func12, Try.ntmps12
    go_wp2_with (first | (go_at_call 17; refine (K.out _).mono ?_; rintro e w1 ⟨rfl, o, rfl⟩) | (go_at_call 39; refine (sp_any _ _ _ _).mono ?_; rintro e w1 ⟨rfl, o1, rfl⟩))
    go_ret
    exact ⟨rfl, _, _, _, rfl⟩
  · rw [if_neg h1] at K ⊢
    by_cases h2 : n < u
    · rw [if_pos h2] at K ⊢
      go_enter Try.func12, Try.ntmps12
      go_wp2_with (first | (go_at_call 17; refine (K.out _).mono ?_; rintro e w1 ⟨rfl, o, rfl⟩) | (go_at_call 35; refine (op_any _ _ _).mono ?_; rintro e w1 ⟨rfl, o1, rfl⟩))
      go_ret
      exact ⟨rfl, _, _, _, rfl⟩
    · rw [if_neg h2] at K ⊢
      go_enter Try.func12, Try.ntmps12
      go_wp2_with (first | (go_at_call 17; refine (K.out _).mono ?_; rintro e w1 ⟨rfl, o, rfl⟩) | (go_at_call 37; refine (hp_any _ _ _).mono ?_; rintro e w1 ⟨rfl, o1, rfl⟩))
      go_ret
      exact ⟨rfl, _, _, _, rfl⟩
end Go.Proofs.Ytdmjhjfieabbbaa
