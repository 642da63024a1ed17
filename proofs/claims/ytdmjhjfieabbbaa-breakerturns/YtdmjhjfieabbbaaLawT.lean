/- For any state, numbers and result the law BreakerTells answers true; no condition. -/
import Derived.Test.YtdmjhjfieabbbaaBd
namespace Go.Proofs.Ytdmjhjfieabbbaa
open Go.RowKit

/-- Two blocks of one's own. -/
def Tw (w : World) (o p : Obj) (w' : World) : Prop := Below (w.heap.size + 1 + 1) ((w.alloc o).alloc p) w'
theorem Tw.drew {w w' : World} {o p : Obj} (h : Tw w o p w') : Tw w o p w'.drew := Below.drew h
theorem Tw.size {w w' : World} {o p : Obj} (h : Tw w o p w') : w.heap.size + 1 + 1 ≤ w'.heap.size := by have := Below.size h; simpa using this
theorem Tw.start (w : World) (o p : Obj) : Tw w o p ((w.alloc o).alloc p) := Below.refl _ _
theorem Tw.step {w w1 w2 : World} {o p : Obj} (h : Tw w o p w1) (hb : Gw w1 w2) : Tw w o p w2 := Below.trans h (Below.mono hb h.size)
theorem Tw.gw {w w' : World} {o p : Obj} (h : Tw w o p w') : Gw w w' := Below.trans (Gw.al (Gw.al (Gw.refl w) o) p) (Below.mono h (by omega))
theorem tw_at {w w' : World} {T U : TypeId} {a b v0 v1 v2 v3 v4 v5 v6 v7 v8 v9 : Value} (h : Tw w (.cells #[a, b] T) (.cells #[v0, v1, v2, v3, v4, v5, v6, v7, v8, v9] U) w') :
    w'.cell? ⟨w.heap.size, 0, none⟩ = some (a) ∧ w'.cell? ⟨w.heap.size, 1, none⟩ = some (b) ∧ w'.cell? ⟨w.heap.size + 1, 0, none⟩ = some (v0) ∧ w'.cell? ⟨w.heap.size + 1, 1, none⟩ = some (v1) ∧ w'.cell? ⟨w.heap.size + 1, 2, none⟩ = some (v2) ∧ w'.cell? ⟨w.heap.size + 1, 3, none⟩ = some (v3) ∧ w'.cell? ⟨w.heap.size + 1, 4, none⟩ = some (v4) ∧ w'.cell? ⟨w.heap.size + 1, 5, none⟩ = some (v5) ∧ w'.cell? ⟨w.heap.size + 1, 6, none⟩ = some (v6) ∧ w'.cell? ⟨w.heap.size + 1, 7, none⟩ = some (v7) ∧ w'.cell? ⟨w.heap.size + 1, 8, none⟩ = some (v8) ∧ w'.cell? ⟨w.heap.size + 1, 9, none⟩ = some (v9) := by
  refine ⟨?_, ?_, ?_, ?_, ?_, ?_, ?_, ?_, ?_, ?_, ?_, ?_⟩
  · rw [Below.cell h (by show w.heap.size < _; omega)]; simp
  · rw [Below.cell h (by show w.heap.size < _; omega)]; simp
  all_goals (rw [Below.cell h (by show w.heap.size + 1 < _; omega)]; simp)

set_option maxRecDepth 100000 in
set_option maxHeartbeats 2000000 in
theorem law_tells (f u a b n er : Int) (v1 v2 v3 v4 v5 v6 v7 v8 v9 : Value) (w : World) : Calls Try.prog 3 #[.agg #[.int .i64 f, .int .i64 u], .int .i64 a, .int .i64 b, .int .i64 n, .agg #[.int .i64 er, v1, v2, v3, v4, v5, v6, v7, v8, v9]] w fun e w' => e = .returned (.bool true) ∧ Gw w w' := by
  have HS := Lib.hid (fun w' (h : Tw w (.cells #[.int .i64 f, .int .i64 u] 23) (.cells #[.int .i64 er, v1, v2, v3, v4, v5, v6, v7, v8, v9] 32) w') => tw_at h)
  have K1 : Hid (∀ wx, Tw w (.cells #[.int .i64 f, .int .i64 u] 23) (.cells #[.int .i64 er, v1, v2, v3, v4, v5, v6, v7, v8, v9] 32) wx → Calls Try.prog 6 #[.agg #[.int .i64 er, v1, v2, v3, v4, v5, v6, v7, v8, v9]] wx fun e w' => e = .returned (.int .i64 (kd er)) ∧ Tw w (.cells #[.int .i64 f, .int .i64 u] 23) (.cells #[.int .i64 er, v1, v2, v3, v4, v5, v6, v7, v8, v9] 32) w') := Lib.hid fun wx hx => (kind_any er v1 v2 v3 v4 v5 v6 v7 v8 v9 wx).mono fun e w' ⟨h1, o, h2⟩ => ⟨h1, hx.step (h2 ▸ (Gw.refl _).al o)⟩
  have K2 : Hid (∀ wx, Tw w (.cells #[.int .i64 f, .int .i64 u] 23) (.cells #[.int .i64 er, v1, v2, v3, v4, v5, v6, v7, v8, v9] 32) wx → Calls Try.prog 7 #[.agg #[.int .i64 er, v1, v2, v3, v4, v5, v6, v7, v8, v9]] wx fun e w' => e = .returned (.int .i64 (kd er)) ∧ Tw w (.cells #[.int .i64 f, .int .i64 u] 23) (.cells #[.int .i64 er, v1, v2, v3, v4, v5, v6, v7, v8, v9] 32) w') := Lib.hid fun wx hx => (rkind_any er v1 v2 v3 v4 v5 v6 v7 v8 v9 wx).mono fun e w' ⟨h1, o, h2⟩ => ⟨h1, hx.step (h2 ▸ (Gw.refl _).al o)⟩
  have KF : Hid (∀ wx, Tw w (.cells #[.int .i64 f, .int .i64 u] 23) (.cells #[.int .i64 er, v1, v2, v3, v4, v5, v6, v7, v8, v9] 32) wx → Calls Try.prog 8 #[.agg #[.int .i64 f, .int .i64 u], .int .i64 a, .int .i64 b, .int .i64 n] wx fun e w' => e = .returned (.bool (fitA f u a b n)) ∧ Tw w (.cells #[.int .i64 f, .int .i64 u] 23) (.cells #[.int .i64 er, v1, v2, v3, v4, v5, v6, v7, v8, v9] 32) w') := Lib.hid fun wx hx => (fit_any f u a b n wx).mono fun e w' ⟨h1, h2⟩ => ⟨h1, hx.step h2⟩
  have KA : Hid (∀ wx, Tw w (.cells #[.int .i64 f, .int .i64 u] 23) (.cells #[.int .i64 er, v1, v2, v3, v4, v5, v6, v7, v8, v9] 32) wx → Calls Try.prog 9 #[] wx fun e w' => e = .returned (.bool true) ∧ Tw w (.cells #[.int .i64 f, .int .i64 u] 23) (.cells #[.int .i64 er, v1, v2, v3, v4, v5, v6, v7, v8, v9] 32) w') := Lib.hid fun wx hx => (awake_any wx).mono fun e w' ⟨h1, h2⟩ => ⟨h1, hx.step h2⟩
  have S1 : Hid (∀ wx, Tw w (.cells #[.int .i64 f, .int .i64 u] 23) (.cells #[.int .i64 er, v1, v2, v3, v4, v5, v6, v7, v8, v9] 32) wx → Calls Try.prog 10 #[.agg #[.int .i64 f, .int .i64 u], .int .i64 a, .int .i64 n] wx fun e w' => e = .returned (.int .i64 (sta f u a n)) ∧ Tw w (.cells #[.int .i64 f, .int .i64 u] 23) (.cells #[.int .i64 er, v1, v2, v3, v4, v5, v6, v7, v8, v9] 32) w') := Lib.hid fun wx hx => (state_any f u a n wx).mono fun e w' ⟨h1, o, p, h2⟩ => ⟨h1, hx.step (h2 ▸ ((Gw.refl _).al o).al p)⟩
  have S2 : Hid (∀ wx, Tw w (.cells #[.int .i64 f, .int .i64 u] 23) (.cells #[.int .i64 er, v1, v2, v3, v4, v5, v6, v7, v8, v9] 32) wx → Calls Try.prog 11 #[.agg #[.int .i64 f, .int .i64 u], .int .i64 a, .int .i64 n] wx fun e w' => e = .returned (.int .i64 (sta f u a n)) ∧ Tw w (.cells #[.int .i64 f, .int .i64 u] 23) (.cells #[.int .i64 er, v1, v2, v3, v4, v5, v6, v7, v8, v9] 32) w') := Lib.hid fun wx hx => (rstate_any f u a n wx).mono fun e w' ⟨h1, o, h2⟩ => ⟨h1, hx.step (h2 ▸ ((Gw.refl _).al o))⟩
  have A1 : Hid (∀ wx, Tw w (.cells #[.int .i64 f, .int .i64 u] 23) (.cells #[.int .i64 er, v1, v2, v3, v4, v5, v6, v7, v8, v9] 32) wx → Calls Try.prog 12 #[.agg #[.int .i64 f, .int .i64 u], .int .i64 a, .int .i64 n] wx fun e w' => e = .returned (.bool (!(sta f u a n == 1))) ∧ Tw w (.cells #[.int .i64 f, .int .i64 u] 23) (.cells #[.int .i64 er, v1, v2, v3, v4, v5, v6, v7, v8, v9] 32) w') := Lib.hid fun wx hx => (ask_any f u a n wx).mono fun e w' ⟨h1, o, p, q, h2⟩ => ⟨h1, hx.step (h2 ▸ (((Gw.refl _).al o).al p).al q)⟩
  have A2 : Hid (∀ wx, Tw w (.cells #[.int .i64 f, .int .i64 u] 23) (.cells #[.int .i64 er, v1, v2, v3, v4, v5, v6, v7, v8, v9] 32) wx → Calls Try.prog 13 #[.agg #[.int .i64 f, .int .i64 u], .int .i64 a, .int .i64 n] wx fun e w' => e = .returned (.bool (!(sta f u a n == 1))) ∧ Tw w (.cells #[.int .i64 f, .int .i64 u] 23) (.cells #[.int .i64 er, v1, v2, v3, v4, v5, v6, v7, v8, v9] 32) w') := Lib.hid fun wx hx => (rask_any f u a n wx).mono fun e w' ⟨h1, o, p, h2⟩ => ⟨h1, hx.step (h2 ▸ ((Gw.refl _).al o).al p)⟩
  generalize fitA f u a b n = F at *
  have hS : sta f u a n = 0 ∨ sta f u a n = 1 ∨ sta f u a n = 2 := by unfold sta; (repeat' split) <;> simp
  generalize sta f u a n = S at *
  generalize kd er = k at *
  have t0 := Tw.start w (.cells #[.int .i64 f, .int .i64 u] 23) (.cells #[.int .i64 er, v1, v2, v3, v4, v5, v6, v7, v8, v9] 32)
  cases F with
  | false =>
    go_enter Try.func3, Try.ntmps3
    go_wp2_with fail
    go_region_held3 (fun w' => w'.cell? ⟨w.heap.size, 0, none⟩ = some (.int .i64 f) ∧ w'.cell? ⟨w.heap.size, 1, none⟩ = some (.int .i64 u) ∧ w'.cell? ⟨w.heap.size + 1, 0, none⟩ = some (.int .i64 er) ∧ w'.cell? ⟨w.heap.size + 1, 1, none⟩ = some (v1) ∧ w'.cell? ⟨w.heap.size + 1, 2, none⟩ = some (v2) ∧ w'.cell? ⟨w.heap.size + 1, 3, none⟩ = some (v3) ∧ w'.cell? ⟨w.heap.size + 1, 4, none⟩ = some (v4) ∧ w'.cell? ⟨w.heap.size + 1, 5, none⟩ = some (v5) ∧ w'.cell? ⟨w.heap.size + 1, 6, none⟩ = some (v6) ∧ w'.cell? ⟨w.heap.size + 1, 7, none⟩ = some (v7) ∧ w'.cell? ⟨w.heap.size + 1, 8, none⟩ = some (v8) ∧ w'.cell? ⟨w.heap.size + 1, 9, none⟩ = some (v9)) (exact HS.out _ (by with_reducible first | assumption | exact Tw.drew (by assumption))) (first
      | (go_at_call 6; with_reducible refine (K1.out _ (by with_reducible first | assumption | exact Tw.drew (by assumption))).mono ?_; rintro e w1 ⟨rfl, t1⟩)
      | (go_at_call 7; with_reducible refine (K2.out _ (by with_reducible first | assumption | exact Tw.drew (by assumption))).mono ?_; rintro e w1 ⟨rfl, t1⟩))
    obtain ⟨c0, c1, c2, c3, c4, c5, c6, c7, c8, c9, c10, c11⟩ := HS.out _ t1
    go_wp2_with (first
      | (go_at_call 8; with_reducible refine (KF.out _ (by with_reducible first | assumption | exact Tw.drew (by assumption))).mono ?_; rintro e w1 ⟨rfl, t1⟩)
      | (go_at_call 9; with_reducible refine (KA.out _ (by with_reducible first | assumption | exact Tw.drew (by assumption))).mono ?_; rintro e w1 ⟨rfl, t1⟩))
    go_ret
    exact ⟨rfl, t1.gw⟩
  | true =>
    rcases hS with rfl | rfl | rfl
    · go_enter Try.func3, Try.ntmps3
      go_wp2_with fail
      go_region_held3 (fun w' => w'.cell? ⟨w.heap.size, 0, none⟩ = some (.int .i64 f) ∧ w'.cell? ⟨w.heap.size, 1, none⟩ = some (.int .i64 u) ∧ w'.cell? ⟨w.heap.size + 1, 0, none⟩ = some (.int .i64 er) ∧ w'.cell? ⟨w.heap.size + 1, 1, none⟩ = some (v1) ∧ w'.cell? ⟨w.heap.size + 1, 2, none⟩ = some (v2) ∧ w'.cell? ⟨w.heap.size + 1, 3, none⟩ = some (v3) ∧ w'.cell? ⟨w.heap.size + 1, 4, none⟩ = some (v4) ∧ w'.cell? ⟨w.heap.size + 1, 5, none⟩ = some (v5) ∧ w'.cell? ⟨w.heap.size + 1, 6, none⟩ = some (v6) ∧ w'.cell? ⟨w.heap.size + 1, 7, none⟩ = some (v7) ∧ w'.cell? ⟨w.heap.size + 1, 8, none⟩ = some (v8) ∧ w'.cell? ⟨w.heap.size + 1, 9, none⟩ = some (v9)) (exact HS.out _ (by with_reducible first | assumption | exact Tw.drew (by assumption))) (first
        | (go_at_call 6; with_reducible refine (K1.out _ (by with_reducible first | assumption | exact Tw.drew (by assumption))).mono ?_; rintro e w1 ⟨rfl, t1⟩)
        | (go_at_call 7; with_reducible refine (K2.out _ (by with_reducible first | assumption | exact Tw.drew (by assumption))).mono ?_; rintro e w1 ⟨rfl, t1⟩))
      obtain ⟨c0, c1, c2, c3, c4, c5, c6, c7, c8, c9, c10, c11⟩ := HS.out _ t1
      go_wp2_with (first
        | (go_at_call 8; with_reducible refine (KF.out _ (by with_reducible first | assumption | exact Tw.drew (by assumption))).mono ?_; rintro e w1 ⟨rfl, t1⟩))
      clear c0 c1 c2 c3 c4 c5 c6 c7 c8 c9 c10 c11
      go_region_held3 (fun w' => w'.cell? ⟨w.heap.size, 0, none⟩ = some (.int .i64 f) ∧ w'.cell? ⟨w.heap.size, 1, none⟩ = some (.int .i64 u) ∧ w'.cell? ⟨w.heap.size + 1, 0, none⟩ = some (.int .i64 er) ∧ w'.cell? ⟨w.heap.size + 1, 1, none⟩ = some (v1) ∧ w'.cell? ⟨w.heap.size + 1, 2, none⟩ = some (v2) ∧ w'.cell? ⟨w.heap.size + 1, 3, none⟩ = some (v3) ∧ w'.cell? ⟨w.heap.size + 1, 4, none⟩ = some (v4) ∧ w'.cell? ⟨w.heap.size + 1, 5, none⟩ = some (v5) ∧ w'.cell? ⟨w.heap.size + 1, 6, none⟩ = some (v6) ∧ w'.cell? ⟨w.heap.size + 1, 7, none⟩ = some (v7) ∧ w'.cell? ⟨w.heap.size + 1, 8, none⟩ = some (v8) ∧ w'.cell? ⟨w.heap.size + 1, 9, none⟩ = some (v9)) (exact HS.out _ (by with_reducible first | assumption | exact Tw.drew (by assumption))) (first
        | (go_at_call 10; with_reducible refine (S1.out _ (by with_reducible first | assumption | exact Tw.drew (by assumption))).mono ?_; rintro e w1 ⟨rfl, t1⟩)
        | (go_at_call 11; with_reducible refine (S2.out _ (by with_reducible first | assumption | exact Tw.drew (by assumption))).mono ?_; rintro e w1 ⟨rfl, t1⟩)
        | (go_at_call 12; with_reducible refine (A1.out _ (by with_reducible first | assumption | exact Tw.drew (by assumption))).mono ?_; rintro e w1 ⟨rfl, t1⟩)
        | (go_at_call 13; with_reducible refine (A2.out _ (by with_reducible first | assumption | exact Tw.drew (by assumption))).mono ?_; rintro e w1 ⟨rfl, t1⟩)
        | (go_at_call 9; with_reducible refine (KA.out _ (by with_reducible first | assumption | exact Tw.drew (by assumption))).mono ?_; rintro e w1 ⟨rfl, t1⟩))
      all_goals go_wp2_with fail
      all_goals go_ret
      all_goals exact ⟨by simp, by first | exact t1.gw | exact t1.drew.gw⟩
    · go_enter Try.func3, Try.ntmps3
      go_wp2_with fail
      go_region_held3 (fun w' => w'.cell? ⟨w.heap.size, 0, none⟩ = some (.int .i64 f) ∧ w'.cell? ⟨w.heap.size, 1, none⟩ = some (.int .i64 u) ∧ w'.cell? ⟨w.heap.size + 1, 0, none⟩ = some (.int .i64 er) ∧ w'.cell? ⟨w.heap.size + 1, 1, none⟩ = some (v1) ∧ w'.cell? ⟨w.heap.size + 1, 2, none⟩ = some (v2) ∧ w'.cell? ⟨w.heap.size + 1, 3, none⟩ = some (v3) ∧ w'.cell? ⟨w.heap.size + 1, 4, none⟩ = some (v4) ∧ w'.cell? ⟨w.heap.size + 1, 5, none⟩ = some (v5) ∧ w'.cell? ⟨w.heap.size + 1, 6, none⟩ = some (v6) ∧ w'.cell? ⟨w.heap.size + 1, 7, none⟩ = some (v7) ∧ w'.cell? ⟨w.heap.size + 1, 8, none⟩ = some (v8) ∧ w'.cell? ⟨w.heap.size + 1, 9, none⟩ = some (v9)) (exact HS.out _ (by with_reducible first | assumption | exact Tw.drew (by assumption))) (first
        | (go_at_call 6; with_reducible refine (K1.out _ (by with_reducible first | assumption | exact Tw.drew (by assumption))).mono ?_; rintro e w1 ⟨rfl, t1⟩)
        | (go_at_call 7; with_reducible refine (K2.out _ (by with_reducible first | assumption | exact Tw.drew (by assumption))).mono ?_; rintro e w1 ⟨rfl, t1⟩))
      obtain ⟨c0, c1, c2, c3, c4, c5, c6, c7, c8, c9, c10, c11⟩ := HS.out _ t1
      go_wp2_with (first
        | (go_at_call 8; with_reducible refine (KF.out _ (by with_reducible first | assumption | exact Tw.drew (by assumption))).mono ?_; rintro e w1 ⟨rfl, t1⟩))
      clear c0 c1 c2 c3 c4 c5 c6 c7 c8 c9 c10 c11
      go_region_held3 (fun w' => w'.cell? ⟨w.heap.size, 0, none⟩ = some (.int .i64 f) ∧ w'.cell? ⟨w.heap.size, 1, none⟩ = some (.int .i64 u) ∧ w'.cell? ⟨w.heap.size + 1, 0, none⟩ = some (.int .i64 er) ∧ w'.cell? ⟨w.heap.size + 1, 1, none⟩ = some (v1) ∧ w'.cell? ⟨w.heap.size + 1, 2, none⟩ = some (v2) ∧ w'.cell? ⟨w.heap.size + 1, 3, none⟩ = some (v3) ∧ w'.cell? ⟨w.heap.size + 1, 4, none⟩ = some (v4) ∧ w'.cell? ⟨w.heap.size + 1, 5, none⟩ = some (v5) ∧ w'.cell? ⟨w.heap.size + 1, 6, none⟩ = some (v6) ∧ w'.cell? ⟨w.heap.size + 1, 7, none⟩ = some (v7) ∧ w'.cell? ⟨w.heap.size + 1, 8, none⟩ = some (v8) ∧ w'.cell? ⟨w.heap.size + 1, 9, none⟩ = some (v9)) (exact HS.out _ (by with_reducible first | assumption | exact Tw.drew (by assumption))) (first
        | (go_at_call 10; with_reducible refine (S1.out _ (by with_reducible first | assumption | exact Tw.drew (by assumption))).mono ?_; rintro e w1 ⟨rfl, t1⟩)
        | (go_at_call 11; with_reducible refine (S2.out _ (by with_reducible first | assumption | exact Tw.drew (by assumption))).mono ?_; rintro e w1 ⟨rfl, t1⟩)
        | (go_at_call 12; with_reducible refine (A1.out _ (by with_reducible first | assumption | exact Tw.drew (by assumption))).mono ?_; rintro e w1 ⟨rfl, t1⟩)
        | (go_at_call 13; with_reducible refine (A2.out _ (by with_reducible first | assumption | exact Tw.drew (by assumption))).mono ?_; rintro e w1 ⟨rfl, t1⟩)
        | (go_at_call 9; with_reducible refine (KA.out _ (by with_reducible first | assumption | exact Tw.drew (by assumption))).mono ?_; rintro e w1 ⟨rfl, t1⟩))
      all_goals go_wp2_with fail
      all_goals go_ret
      all_goals exact ⟨by simp, by first | exact t1.gw | exact t1.drew.gw⟩
    · go_enter Try.func3, Try.ntmps3
      go_wp2_with fail
      go_region_held3 (fun w' => w'.cell? ⟨w.heap.size, 0, none⟩ = some (.int .i64 f) ∧ w'.cell? ⟨w.heap.size, 1, none⟩ = some (.int .i64 u) ∧ w'.cell? ⟨w.heap.size + 1, 0, none⟩ = some (.int .i64 er) ∧ w'.cell? ⟨w.heap.size + 1, 1, none⟩ = some (v1) ∧ w'.cell? ⟨w.heap.size + 1, 2, none⟩ = some (v2) ∧ w'.cell? ⟨w.heap.size + 1, 3, none⟩ = some (v3) ∧ w'.cell? ⟨w.heap.size + 1, 4, none⟩ = some (v4) ∧ w'.cell? ⟨w.heap.size + 1, 5, none⟩ = some (v5) ∧ w'.cell? ⟨w.heap.size + 1, 6, none⟩ = some (v6) ∧ w'.cell? ⟨w.heap.size + 1, 7, none⟩ = some (v7) ∧ w'.cell? ⟨w.heap.size + 1, 8, none⟩ = some (v8) ∧ w'.cell? ⟨w.heap.size + 1, 9, none⟩ = some (v9)) (exact HS.out _ (by with_reducible first | assumption | exact Tw.drew (by assumption))) (first
        | (go_at_call 6; with_reducible refine (K1.out _ (by with_reducible first | assumption | exact Tw.drew (by assumption))).mono ?_; rintro e w1 ⟨rfl, t1⟩)
        | (go_at_call 7; with_reducible refine (K2.out _ (by with_reducible first | assumption | exact Tw.drew (by assumption))).mono ?_; rintro e w1 ⟨rfl, t1⟩))
      obtain ⟨c0, c1, c2, c3, c4, c5, c6, c7, c8, c9, c10, c11⟩ := HS.out _ t1
      go_wp2_with (first
        | (go_at_call 8; with_reducible refine (KF.out _ (by with_reducible first | assumption | exact Tw.drew (by assumption))).mono ?_; rintro e w1 ⟨rfl, t1⟩))
      clear c0 c1 c2 c3 c4 c5 c6 c7 c8 c9 c10 c11
      go_region_held3 (fun w' => w'.cell? ⟨w.heap.size, 0, none⟩ = some (.int .i64 f) ∧ w'.cell? ⟨w.heap.size, 1, none⟩ = some (.int .i64 u) ∧ w'.cell? ⟨w.heap.size + 1, 0, none⟩ = some (.int .i64 er) ∧ w'.cell? ⟨w.heap.size + 1, 1, none⟩ = some (v1) ∧ w'.cell? ⟨w.heap.size + 1, 2, none⟩ = some (v2) ∧ w'.cell? ⟨w.heap.size + 1, 3, none⟩ = some (v3) ∧ w'.cell? ⟨w.heap.size + 1, 4, none⟩ = some (v4) ∧ w'.cell? ⟨w.heap.size + 1, 5, none⟩ = some (v5) ∧ w'.cell? ⟨w.heap.size + 1, 6, none⟩ = some (v6) ∧ w'.cell? ⟨w.heap.size + 1, 7, none⟩ = some (v7) ∧ w'.cell? ⟨w.heap.size + 1, 8, none⟩ = some (v8) ∧ w'.cell? ⟨w.heap.size + 1, 9, none⟩ = some (v9)) (exact HS.out _ (by with_reducible first | assumption | exact Tw.drew (by assumption))) (first
        | (go_at_call 10; with_reducible refine (S1.out _ (by with_reducible first | assumption | exact Tw.drew (by assumption))).mono ?_; rintro e w1 ⟨rfl, t1⟩)
        | (go_at_call 11; with_reducible refine (S2.out _ (by with_reducible first | assumption | exact Tw.drew (by assumption))).mono ?_; rintro e w1 ⟨rfl, t1⟩)
        | (go_at_call 12; with_reducible refine (A1.out _ (by with_reducible first | assumption | exact Tw.drew (by assumption))).mono ?_; rintro e w1 ⟨rfl, t1⟩)
        | (go_at_call 13; with_reducible refine (A2.out _ (by with_reducible first | assumption | exact Tw.drew (by assumption))).mono ?_; rintro e w1 ⟨rfl, t1⟩)
        | (go_at_call 9; with_reducible refine (KA.out _ (by with_reducible first | assumption | exact Tw.drew (by assumption))).mono ?_; rintro e w1 ⟨rfl, t1⟩))
      all_goals go_wp2_with fail
      all_goals go_ret
      all_goals exact ⟨by simp, by first | exact t1.gw | exact t1.drew.gw⟩
end Go.Proofs.Ytdmjhjfieabbbaa
