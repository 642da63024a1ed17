/- The law's look at its numbers, and its example; no condition. -/
import Derived.Test.YtdmjhjfieabbbaaBc
namespace Go.Proofs.Ytdmjhjfieabbbaa
open Go.RowKit

def fitA (f u a b n : Int) : Bool := decide (1 ≤ a ∧ a ≤ 1000 ∧ 1 ≤ b ∧ b ≤ 1000000 ∧ 0 ≤ n ∧ n ≤ 1099511627776) && fitB f u a
set_option maxRecDepth 100000 in
set_option maxHeartbeats 1000000 in
theorem fit_any (f u a b n : Int) (w : World) : Calls Try.prog 8 #[.agg #[.int .i64 f, .int .i64 u], .int .i64 a, .int .i64 b, .int .i64 n] w fun e w' => e = .returned (.bool (fitA f u a b n)) ∧ Gw w w' := by
  have K := Lib.hid (fun w' => rfit_any f u a w')
  unfold fitA
  generalize fitB f u a = B at *
  go_enter Try.func8, Try.ntmps8
  go_wp2_with (go_at_call 16; refine (K.out _).mono ?_; rintro e w1 ⟨rfl, o, rfl⟩)
  all_goals go_ret
  all_goals refine ⟨ret_b ?_, by repeat (with_reducible first | exact Gw.refl _ | apply Gw.al | apply Gw.drew)⟩
  all_goals (cases B <;> simp <;> omega)

def On (w : World) (o : Obj) (w' : World) : Prop := Below (w.heap.size + 1) (w.alloc o) w'
theorem On.drew {w w' : World} {o : Obj} (h : On w o w') : On w o w'.drew := Below.drew h
theorem On.size {w w' : World} {o : Obj} (h : On w o w') : w.heap.size + 1 ≤ w'.heap.size := by have := Below.size h; simpa using this
theorem On.al {w w' : World} {o : Obj} (h : On w o w') (q : Obj) : On w o (w'.alloc q) := Below.alloc h h.size q
theorem On.start (w : World) (o : Obj) : On w o (w.alloc o) := Below.refl _ _
theorem On.step {w w1 w2 : World} {o : Obj} (h : On w o w1) (hb : Gw w1 w2) : On w o w2 := Below.trans h (Below.mono hb h.size)
theorem On.gw {w w' : World} {o : Obj} (h : On w o w') : Gw w w' := Below.trans ((Below.refl _ w).alloc (Nat.le_refl _) _) (Below.mono h (by omega))
theorem ten_at {w w' : World} {T : TypeId} {v0 v1 v2 v3 v4 v5 v6 v7 v8 v9 : Value} (h : On w (.cells #[v0, v1, v2, v3, v4, v5, v6, v7, v8, v9] T) w') :
    w'.cell? ⟨w.heap.size, 0, none⟩ = some v0 ∧ w'.cell? ⟨w.heap.size, 1, none⟩ = some v1 ∧ w'.cell? ⟨w.heap.size, 2, none⟩ = some v2 ∧ w'.cell? ⟨w.heap.size, 3, none⟩ = some v3 ∧ w'.cell? ⟨w.heap.size, 4, none⟩ = some v4 ∧ w'.cell? ⟨w.heap.size, 5, none⟩ = some v5 ∧ w'.cell? ⟨w.heap.size, 6, none⟩ = some v6 ∧ w'.cell? ⟨w.heap.size, 7, none⟩ = some v7 ∧ w'.cell? ⟨w.heap.size, 8, none⟩ = some v8 ∧ w'.cell? ⟨w.heap.size, 9, none⟩ = some v9 := by
  refine ⟨?_, ?_, ?_, ?_, ?_, ?_, ?_, ?_, ?_, ?_⟩ <;> (rw [Below.cell h (by show w.heap.size < _; omega)]; simp)
set_option maxRecDepth 100000 in
set_option maxHeartbeats 1000000 in
theorem awake_any (w : World) : Calls Try.prog 9 #[] w fun e w' => e = .returned (.bool true) ∧ Gw w w' := by
  have D1 := Lib.hid (fun w' v1 v2 v3 v4 v5 v6 v7 v8 v9 => done_any 0 0 2 10 5 101 v1 v2 v3 v4 v5 v6 v7 v8 v9 w' (by omega) (by omega) (by omega) (by omega))
  have D2 := Lib.hid (fun w' v1 v2 v3 v4 v5 v6 v7 v8 v9 => done_any 1 0 2 10 6 101 v1 v2 v3 v4 v5 v6 v7 v8 v9 w' (by omega) (by omega) (by omega) (by omega))
  rw [show kd 101 = -1 by decide] at D1 D2
  rw [show dnF 0 2 (-1) = 1 by decide, show dnU 0 0 2 10 5 (-1) = 0 by decide, show cn 0 2 (-1) = 8 by decide] at D1
  rw [show dnF 1 2 (-1) = 2 by decide, show dnU 1 0 2 10 6 (-1) = 16 by decide, show cn 1 2 (-1) = 8 by decide] at D2
  simp only [als] at D1 D2
  have K := Lib.hid (fun w' v1 v2 v3 v4 v5 v6 v7 v8 v9 => kind_any 101 v1 v2 v3 v4 v5 v6 v7 v8 v9 w')
  rw [show kd 101 = -1 by decide] at K
  have A1 := Lib.hid (fun w' => ask_any 2 16 2 15 w')
  have A2 := Lib.hid (fun w' => ask_any 2 16 2 16 w')
  have S1 := Lib.hid (fun w' => state_any 2 16 2 16 w')
  rw [show (!(sta 2 16 2 15 == 1)) = false by decide] at A1
  rw [show (!(sta 2 16 2 16 == 1)) = true by decide] at A2
  rw [show sta 2 16 2 16 = 2 by decide] at S1
  have HS := Lib.hid (fun w' (h : On w (.cells #[.int .i64 101, .int .i64 0, .int .i64 0, .int .i64 0, .bool false, .int .i64 0, .int .i64 0, .int .u64 0, .string ⟨#[]⟩, .slice none 0 0] 32) w') => ten_at h)
  go_enter Try.func9, Try.ntmps9
  go_wp2_with fail
  go_region_held3 (fun w' => w'.cell? ⟨w.heap.size, 0, none⟩ = some (.int .i64 101) ∧ w'.cell? ⟨w.heap.size, 1, none⟩ = some (.int .i64 0) ∧ w'.cell? ⟨w.heap.size, 2, none⟩ = some (.int .i64 0) ∧ w'.cell? ⟨w.heap.size, 3, none⟩ = some (.int .i64 0) ∧ w'.cell? ⟨w.heap.size, 4, none⟩ = some (.bool false) ∧ w'.cell? ⟨w.heap.size, 5, none⟩ = some (.int .i64 0) ∧ w'.cell? ⟨w.heap.size, 6, none⟩ = some (.int .i64 0) ∧ w'.cell? ⟨w.heap.size, 7, none⟩ = some (.int .u64 0) ∧ w'.cell? ⟨w.heap.size, 8, none⟩ = some (.string ⟨#[]⟩) ∧ w'.cell? ⟨w.heap.size, 9, none⟩ = some (.slice none 0 0)) (exact HS.out _ (by with_reducible repeat (first | exact On.start _ _ | apply On.al | apply On.drew))) (first
   | (go_at_call 14; with_reducible refine (D1.out _ _ _ _ _ _ _ _ _ _).mono ?_; rintro e w1 ⟨rfl, o1, o2, o3, o4, o5, o6, o7, o8, rfl⟩)
   | (go_at_call 14; with_reducible refine (D2.out _ _ _ _ _ _ _ _ _ _).mono ?_; rintro e w1 ⟨rfl, o1, o2, o3, o4, o5, o6, o7, o8, rfl⟩))
  all_goals go_wp2_with (first
   | (go_at_call 6; with_reducible refine (K.out _ _ _ _ _ _ _ _ _ _).mono ?_; rintro e w1 ⟨rfl, o1, rfl⟩)
   | (go_at_call 12; with_reducible refine (A1.out _).mono ?_; rintro e w1 ⟨rfl, o1, o2, o3, rfl⟩)
   | (go_at_call 12; with_reducible refine (A2.out _).mono ?_; rintro e w1 ⟨rfl, o1, o2, o3, rfl⟩)
   | (go_at_call 10; with_reducible refine (S1.out _).mono ?_; rintro e w1 ⟨rfl, o1, o2, rfl⟩))
  all_goals go_ret
  all_goals refine ⟨rfl, ?_⟩
  all_goals repeat (with_reducible first | exact Gw.refl _ | apply Gw.al | apply Gw.drew)
end Go.Proofs.Ytdmjhjfieabbbaa
