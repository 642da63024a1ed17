/- For any state, numbers and result the law BreakerTurns answers true; no condition. -/
import Derived.Test.YtdmjhjfieabbbaaLawT
namespace Go.Proofs.Ytdmjhjfieabbbaa
open Go.RowKit

theorem dn_fit {f u a b n k : Int} (h : fitA f u a b n = true) (hk : k = 1 ∨ k = 0 ∨ k = -1) : fitB (dnF f a k) (dnU f u a b n k) a = true := by
  simp only [fitA, fitB, Bool.and_eq_true, decide_eq_true_eq] at h ⊢
  rcases hk with rfl | rfl | rfl
  · simp only [dnF, dnU, if_true]; omega
  · simp only [dnF, dnU]; simp; omega
  · simp only [dnF, dnU]; simp; (repeat' split) <;> omega
theorem kd_or (er : Int) : kd er = 1 ∨ kd er = 0 ∨ kd er = -1 := by
  unfold kd; split
  · omega
  · split <;> omega

/-- A third block. -/
def Th (w : World) (o p : Obj) (w2 : World) (q : Obj) (w' : World) : Prop := Tw w o p w2 ∧ On w2 q w'
theorem Th.drew {w w2 w' : World} {o p q : Obj} (h : Th w o p w2 q w') : Th w o p w2 q w'.drew := ⟨h.1, h.2.drew⟩
theorem Th.step {w w2 w' w3 : World} {o p q : Obj} (h : Th w o p w2 q w') (hb : Gw w' w3) : Th w o p w2 q w3 := ⟨h.1, h.2.step hb⟩
theorem Th.gw {w w2 w' : World} {o p q : Obj} (h : Th w o p w2 q w') : Gw w w' := h.1.gw.trans h.2.gw
theorem Th.tw {w w2 w' : World} {o p q : Obj} (h : Th w o p w2 q w') : Tw w o p w' := h.1.step h.2.gw
theorem two_at {w w' : World} {T : TypeId} {a b : Value} (h : On w (.cells #[a, b] T) w') : w'.cell? ⟨w.heap.size, 0, none⟩ = some a ∧ w'.cell? ⟨w.heap.size, 1, none⟩ = some b := by
  constructor <;> (rw [Below.cell h (by show w.heap.size < _; omega)]; simp)

set_option maxRecDepth 100000 in
set_option maxHeartbeats 4000000 in
theorem law_turns (f u a b n er : Int) (v1 v2 v3 v4 v5 v6 v7 v8 v9 : Value) (w : World) : Calls Try.prog 4 #[.agg #[.int .i64 f, .int .i64 u], .int .i64 a, .int .i64 b, .int .i64 n, .agg #[.int .i64 er, v1, v2, v3, v4, v5, v6, v7, v8, v9]] w fun e w' => e = .returned (.bool true) ∧ Gw w w' := by
  have HS := Lib.hid (fun w' (h : Tw w (.cells #[.int .i64 f, .int .i64 u] 23) (.cells #[.int .i64 er, v1, v2, v3, v4, v5, v6, v7, v8, v9] 32) w') => tw_at h)
  have KF : Hid (∀ wx, Tw w (.cells #[.int .i64 f, .int .i64 u] 23) (.cells #[.int .i64 er, v1, v2, v3, v4, v5, v6, v7, v8, v9] 32) wx → Calls Try.prog 8 #[.agg #[.int .i64 f, .int .i64 u], .int .i64 a, .int .i64 b, .int .i64 n] wx fun e w' => e = .returned (.bool (fitA f u a b n)) ∧ Tw w (.cells #[.int .i64 f, .int .i64 u] 23) (.cells #[.int .i64 er, v1, v2, v3, v4, v5, v6, v7, v8, v9] 32) w') := Lib.hid fun wx hx => (fit_any f u a b n wx).mono fun e w' ⟨h1, h2⟩ => ⟨h1, hx.step h2⟩
  have KA : Hid (∀ wx, Tw w (.cells #[.int .i64 f, .int .i64 u] 23) (.cells #[.int .i64 er, v1, v2, v3, v4, v5, v6, v7, v8, v9] 32) wx → Calls Try.prog 9 #[] wx fun e w' => e = .returned (.bool true) ∧ Tw w (.cells #[.int .i64 f, .int .i64 u] 23) (.cells #[.int .i64 er, v1, v2, v3, v4, v5, v6, v7, v8, v9] 32) w') := Lib.hid fun wx hx => (awake_any wx).mono fun e w' ⟨h1, h2⟩ => ⟨h1, hx.step h2⟩
  have t0 := Tw.start w (.cells #[.int .i64 f, .int .i64 u] 23) (.cells #[.int .i64 er, v1, v2, v3, v4, v5, v6, v7, v8, v9] 32)
  cases hF : fitA f u a b n with
  | false =>
    rw [hF] at KF
    clear hF
    go_enter Try.func4, Try.ntmps4
    go_wp2_with (first
      | (go_at_call 8; with_reducible refine (KF.out _ (by with_reducible first | assumption | exact Tw.drew (by assumption))).mono ?_; rintro e w1 ⟨rfl, t1⟩)
      | (go_at_call 9; with_reducible refine (KA.out _ (by with_reducible first | assumption | exact Tw.drew (by assumption))).mono ?_; rintro e w1 ⟨rfl, t1⟩))
    go_ret
    exact ⟨rfl, t1.gw⟩
  | true =>
    rw [hF] at KF
    have hF2 := hF
    simp only [fitA, fitB, Bool.and_eq_true, decide_eq_true_eq] at hF2
    have hG := dn_fit hF (kd_or er)
    have D1 := Lib.hid (fun w' => done_any f u a b n er v1 v2 v3 v4 v5 v6 v7 v8 v9 w' (by omega) (by omega) (by omega) (by omega))
    have D2 := Lib.hid (fun w' => rdone_any f u a b n er v1 v2 v3 v4 v5 v6 v7 v8 v9 w' (by omega) (by omega) (by omega) (by omega))
    have K := Lib.hid (fun w' => kind_any er v1 v2 v3 v4 v5 v6 v7 v8 v9 w')
    have R := Lib.hid (fun w' => rfit_any (dnF f a (kd er)) (dnU f u a b n (kd er)) a w')
    rw [hG] at R
    have hn : kd er = 0 → dnF f a (kd er) = f ∧ dnU f u a b n (kd er) = u := fun h => by rw [h]; exact ⟨rfl, rfl⟩
    have hk := kd_or er
    generalize dnF f a (kd er) = X at *
    generalize dnU f u a b n (kd er) = Y at *
    generalize kd er = k at *
    clear hF hF2 hG
    go_enter Try.func4, Try.ntmps4
    go_wp2_with (first | (go_at_call 8; with_reducible refine (KF.out _ t0).mono ?_; rintro e w1 ⟨rfl, t1⟩; obtain ⟨c0, c1, c2, c3, c4, c5, c6, c7, c8, c9, c10, c11⟩ := HS.out _ t1) | (go_at_call 14; with_reducible refine (D1.out _).mono ?_; rintro e w2 ⟨rfl, g2⟩))
    clear c0 c1 c2 c3 c4 c5 c6 c7 c8 c9 c10 c11
    have t2 := t1.step (als_gw _ _ _ g2)
    clear t1 g2 t0
    have u0 : Th w (.cells #[.int .i64 f, .int .i64 u] 23) (.cells #[.int .i64 er, v1, v2, v3, v4, v5, v6, v7, v8, v9] 32) w2 (.cells #[.int .i64 X, .int .i64 Y] 23) (w2.alloc (.cells #[.int .i64 X, .int .i64 Y] 23)) := ⟨t2, On.start _ _⟩
    clear t2
    have HT := Lib.hid (fun w' (h : Th w (.cells #[.int .i64 f, .int .i64 u] 23) (.cells #[.int .i64 er, v1, v2, v3, v4, v5, v6, v7, v8, v9] 32) w2 (.cells #[.int .i64 X, .int .i64 Y] 23) w') => And.intro (two_at h.2) (tw_at h.tw))
    go_region_held3 (fun w' => (w'.cell? ⟨w2.heap.size, 0, none⟩ = some (.int .i64 X) ∧ w'.cell? ⟨w2.heap.size, 1, none⟩ = some (.int .i64 Y)) ∧ w'.cell? ⟨w.heap.size, 0, none⟩ = some (.int .i64 f) ∧ w'.cell? ⟨w.heap.size, 1, none⟩ = some (.int .i64 u) ∧ w'.cell? ⟨w.heap.size + 1, 0, none⟩ = some (.int .i64 er) ∧ w'.cell? ⟨w.heap.size + 1, 1, none⟩ = some (v1) ∧ w'.cell? ⟨w.heap.size + 1, 2, none⟩ = some (v2) ∧ w'.cell? ⟨w.heap.size + 1, 3, none⟩ = some (v3) ∧ w'.cell? ⟨w.heap.size + 1, 4, none⟩ = some (v4) ∧ w'.cell? ⟨w.heap.size + 1, 5, none⟩ = some (v5) ∧ w'.cell? ⟨w.heap.size + 1, 6, none⟩ = some (v6) ∧ w'.cell? ⟨w.heap.size + 1, 7, none⟩ = some (v7) ∧ w'.cell? ⟨w.heap.size + 1, 8, none⟩ = some (v8) ∧ w'.cell? ⟨w.heap.size + 1, 9, none⟩ = some (v9)) (exact HT.out _ (by with_reducible first | assumption | exact Th.drew (by assumption))) (first
      | (go_at_call 15; with_reducible refine (D2.out _).mono ?_; rintro e w3 ⟨rfl, g3⟩; have u1 := Th.step (Th.drew u0) (als_gw _ _ _ g3); clear g3)
      | (go_at_call 16; with_reducible refine (R.out _).mono ?_; rintro e w4 ⟨rfl, o4, rfl⟩; have u2 := Th.step u1 ((Gw.refl _).al o4)))
    clear u1
    generalize w3.alloc o4 = w4 at *
    obtain ⟨⟨d0, d1⟩, c0, c1, c2, c3, c4, c5, c6, c7, c8, c9, c10, c11⟩ := HT.out _ u2
    rcases hk with rfl | rfl | rfl
    · clear hn
      go_wp2_with (first | (go_at_call 6; with_reducible refine (K.out _).mono ?_; rintro e w5 ⟨rfl, o5, rfl⟩) | (go_at_call 9; with_reducible refine (awake_any _).mono ?_; rintro e w6 ⟨rfl, g6⟩))
      go_ret
      exact ⟨rfl, u2.gw.trans (((Gw.refl _).al _).trans g6)⟩
    · obtain ⟨rfl, rfl⟩ := hn rfl
      clear hn
      have e0 : ∀ o, (w4.alloc o).cell? ⟨w2.heap.size, 0, none⟩ = some (.int .i64 X) := fun o => (HT.out _ (u2.step ((Gw.refl _).al o))).1.1
      have e1 : ∀ o, (w4.alloc o).cell? ⟨w2.heap.size, 1, none⟩ = some (.int .i64 Y) := fun o => (HT.out _ (u2.step ((Gw.refl _).al o))).1.2
      have e2 : ∀ o, (w4.alloc o).cell? ⟨w.heap.size, 0, none⟩ = some (.int .i64 X) := fun o => (HT.out _ (u2.step ((Gw.refl _).al o))).2.1
      have e3 : ∀ o, (w4.alloc o).cell? ⟨w.heap.size, 1, none⟩ = some (.int .i64 Y) := fun o => (HT.out _ (u2.step ((Gw.refl _).al o))).2.2.1
      go_wp2_with (first | (go_at_call 6; with_reducible refine (K.out _).mono ?_; rintro e w5 ⟨rfl, o5, rfl⟩) | (go_at_call 9; with_reducible refine (awake_any _).mono ?_; rintro e w6 ⟨rfl, g6⟩))
      go_ret
      exact ⟨rfl, u2.gw.trans (((Gw.refl _).al _).trans g6)⟩
    · clear hn
      go_wp2_with (first | (go_at_call 6; with_reducible refine (K.out _).mono ?_; rintro e w5 ⟨rfl, o5, rfl⟩) | (go_at_call 9; with_reducible refine (awake_any _).mono ?_; rintro e w6 ⟨rfl, g6⟩))
      go_ret
      exact ⟨rfl, u2.gw.trans (((Gw.refl _).al _).trans g6)⟩
end Go.Proofs.Ytdmjhjfieabbbaa
