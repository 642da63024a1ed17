/- New, Take, Wait of the package and of the document; the condition: a fit state and a tick. -/
import Derived.Test.YtbaalkkhbcclnaaLa
namespace Go.Proofs.Ytbaalkkhbcclnaa
open Go.RowKit

/-- What comes of a state's number. -/
def lim (L l : Int) : Value := .agg #[.int .i64 L, .int .i64 l]

set_option maxRecDepth 100000 in
set_option maxHeartbeats 1000000 in
theorem new_any (a b n : Int) (w : World) (h : -9223372036854775808 ≤ a * b ∧ a * b ≤ 9223372036854775807) : Calls Try.prog 13 #[.int .i64 a, .int .i64 b, .int .i64 n] w fun e w' => e = .returned (.agg #[.int .i64 (a * b), .int .i64 n]) ∧ ∃ o, w' = w.alloc o := by
  have HV := Lib.hid (w64 _ h)
  clear h
  go_enter Try.func13, Try.ntmps13
  go_wp2_with (go_at_call 19; refine (in_any _ _ _).mono ?_; rintro e w1 ⟨rfl, rfl⟩; rw [HV.out])
  refine bodyPost_ret (v := .agg #[.int .i64 _, .int .i64 _]) (by simp [results, Try.results13, go_sem]) rfl ⟨rfl, _, rfl⟩

set_option maxRecDepth 100000 in
set_option maxHeartbeats 1000000 in
theorem take_any {L l a b n : Int} (h : Ft L l a b n) (w : World) : Calls Try.prog 11 #[.agg #[.int .i64 L, .int .i64 l], .int .i64 a, .int .i64 b, .int .i64 n] w fun e w' => e = .returned (.tuple #[.agg #[.int .i64 (if lv L l a b n < b then lv L l a b n else lv L l a b n - b), .int .i64 (max l n)], .bool (!decide (lv L l a b n < b))]) ∧ ∃ o p q r, w' = ((((w.alloc o).alloc p).alloc q).alloc r).drew := by
  have H1 := Lib.hid h
  have h1 := h.lv0; have h2 := h.b1; have h3 := h.b2; have h4 := h.ab
  clear h
  by_cases hb : lv L l a b n < b
  · simp only [hb, if_true, decide_true, Bool.not_true]
    go_enter Try.func11, Try.ntmps11
    go_wp2_with (go_at_call 17; refine (asOf_ft H1.out _).mono ?_; rintro e w1 ⟨rfl, rfl⟩)
    refine bodyPost_ret (v := .tuple #[.agg #[.int .i64 _, .int .i64 _], .bool _]) (by simp [results, Try.results11, go_sem]) rfl ⟨rfl, _, _, _, _, rfl⟩
  · simp only [hb, if_false, decide_false, Bool.not_false]
    go_enter Try.func11, Try.ntmps11
    go_wp2_with (go_at_call 17; refine (asOf_ft H1.out _).mono ?_; rintro e w1 ⟨rfl, rfl⟩)
    refine bodyPost_ret (v := .tuple #[.agg #[.int .i64 _, .int .i64 _], .bool _]) (by simp [results, Try.results11, go_sem]) rfl ⟨rfl, _, _, _, _, rfl⟩

theorem ret_b {a b : Bool} (h : a = b) : Ending.returned (.bool a) = .returned (.bool b) := by rw [h]
/-- Is a state one of a bucket of a in b? -/
def fitB (L l a b : Int) : Bool := decide (1 ≤ a ∧ a ≤ 1000000 ∧ 1 ≤ b ∧ b ≤ 1000000 ∧ 0 ≤ L ∧ L ≤ a * b ∧ 0 ≤ l ∧ l ≤ 1099511627776)
theorem fit_ft {L l a b n : Int} (h : fitB L l a b = true) (h1 : 0 ≤ n) (h2 : n ≤ 1099511627776) : Ft L l a b n := by
  obtain ⟨x1, x2, x3, x4, x5, x6, x7, x8⟩ := of_decide_eq_true h
  exact ⟨x1, x2, x3, x4, x5, x6, x7, x8, h1, h2⟩
theorem ft_fit {L l a b n : Int} (h : Ft L l a b n) : fitB L l a b = true :=
  decide_eq_true ⟨h.a1, h.a2, h.b1, h.b2, h.L1, h.L2, h.l1, h.l2⟩

set_option maxRecDepth 100000 in
set_option maxHeartbeats 1000000 in
theorem rfit_any (L l a b : Int) (w : World) : Calls Try.prog 8 #[.agg #[.int .i64 L, .int .i64 l], .int .i64 a, .int .i64 b] w fun e w' => e = .returned (.bool (fitB L l a b)) ∧ ∃ o, w' = w.alloc o := by
  have HW := Lib.hid (show 1 ≤ a → a ≤ 1000000 → 1 ≤ b → b ≤ 1000000 → wrap64 (a * b) = a * b from fun h1 h2 h3 h4 => by
    have g1 : a * b ≤ 1000000 * b := Int.mul_le_mul_of_nonneg_right h2 (by omega)
    have g2 : 0 ≤ a * b := Int.mul_nonneg (by omega) (by omega)
    exact w64 _ (by omega))
  go_enter Try.func8, Try.ntmps8
  go_wp2
  all_goals go_ret
  all_goals refine ⟨ret_b ?_, _, rfl⟩
  all_goals unfold fitB
  all_goals first
    | (refine (decide_eq_false ?_).symm; rintro ⟨x1, x2, x3, x4, x5, x6, x7, x8⟩; have := HW.out x1 x2 x3 x4; omega)
    | (have hw := HW.out (by assumption) (by assumption) (by assumption) (by assumption); refine decide_eq_decide.2 ?_; constructor <;> intro _ <;> omega)

/- The document's: as of a tick. -/
set_option maxRecDepth 100000 in
set_option maxHeartbeats 1000000 in
theorem rnow_any {L l a b n : Int} (h : Ft L l a b n) (w : World) : Calls Try.prog 18 #[.agg #[.int .i64 L, .int .i64 l], .int .i64 a, .int .i64 b, .int .i64 n] w fun e w' => e = .returned (.agg #[.int .i64 (lv L l a b n), .int .i64 (max l n)]) ∧ ∃ o p, w' = (w.alloc o).alloc p := by
  have h1 := h.ab; have h2 := h.come; have h3 := h.L1; have h4 := h.L2; have h5 := h.l1; have h6 := h.l2; have h7 := h.n1; have h8 := h.n2
  unfold lv
  clear h
  by_cases hln : l < n
  · rw [show max l n = n by omega] at h2 ⊢
    rw [Int.mul_comm a (n - l)] at h2 ⊢
    have H1 := Lib.hid h1
    go_enter Try.func18, Try.ntmps18
    go_wp2
    · rw [show min (L + (n - l) * a) (a * b) = L + (n - l) * a by omega]
      refine bodyPost_ret (v := .agg #[.int .i64 _, .int .i64 _]) (by simp [results, Try.results18, go_sem]) rfl ⟨rfl, _, _, rfl⟩
    · rw [show min (L + (n - l) * a) (a * b) = a * b by omega]
      refine bodyPost_ret (v := .agg #[.int .i64 _, .int .i64 _]) (by simp [results, Try.results18, go_sem]) rfl ⟨rfl, _, _, rfl⟩
  · rw [show max l n = l by omega] at h2 ⊢
    rw [Int.sub_self, Int.mul_zero, Int.add_zero, show min L (a * b) = L by omega]
    go_enter Try.func18, Try.ntmps18
    go_wp2
    refine bodyPost_ret (v := .agg #[.int .i64 _, .int .i64 _]) (by simp [results, Try.results18, go_sem]) rfl ⟨rfl, _, _, rfl⟩

set_option maxRecDepth 100000 in
set_option maxHeartbeats 1000000 in
theorem rtake_any {L l a b n : Int} (h : Ft L l a b n) (w : World) : Calls Try.prog 12 #[.agg #[.int .i64 L, .int .i64 l], .int .i64 a, .int .i64 b, .int .i64 n] w fun e w' => e = .returned (.tuple #[.agg #[.int .i64 (if lv L l a b n < b then lv L l a b n else lv L l a b n - b), .int .i64 (max l n)], .bool (!decide (lv L l a b n < b))]) ∧ ∃ o p q r, w' = (((w.alloc o).alloc p).alloc q).alloc r := by
  have H1 := Lib.hid h
  have h1 := h.lv0; have h2 := h.b1; have h3 := h.b2; have h4 := h.ab
  clear h
  by_cases hb : lv L l a b n < b
  · simp only [hb, if_true, decide_true, Bool.not_true]
    go_enter Try.func12, Try.ntmps12
    go_wp2_with (go_at_call 18; refine (rnow_any H1.out _).mono ?_; rintro e w1 ⟨rfl, o, p, rfl⟩)
    refine bodyPost_ret (v := .tuple #[.agg #[.int .i64 _, .int .i64 _], .bool _]) (by simp [results, Try.results12, go_sem]) rfl ⟨rfl, _, _, _, _, rfl⟩
  · simp only [hb, if_false, decide_false, Bool.not_false]
    go_enter Try.func12, Try.ntmps12
    go_wp2_with (go_at_call 18; refine (rnow_any H1.out _).mono ?_; rintro e w1 ⟨rfl, o, p, rfl⟩)
    refine bodyPost_ret (v := .tuple #[.agg #[.int .i64 _, .int .i64 _], .bool _]) (by simp [results, Try.results12, go_sem]) rfl ⟨rfl, _, _, _, _, rfl⟩

set_option maxRecDepth 100000 in
set_option maxHeartbeats 1000000 in
theorem rnew_any (a b n : Int) (w : World) (h : -9223372036854775808 ≤ a * b ∧ a * b ≤ 9223372036854775807) : Calls Try.prog 14 #[.int .i64 a, .int .i64 b, .int .i64 n] w fun e w' => e = .returned (.agg #[.int .i64 (a * b), .int .i64 n]) ∧ ∃ o, w' = w.alloc o := by
  go_enter Try.func14, Try.ntmps14
  go_wp2
  refine bodyPost_ret (v := .agg #[.int .i64 _, .int .i64 _]) (by simp [results, Try.results14, go_sem]) rfl ⟨rfl, _, rfl⟩

set_option maxRecDepth 100000 in
set_option maxHeartbeats 1000000 in
theorem tick_any (n : Int) (w : World) : Calls Try.prog 9 #[.int .i64 n] w fun e w' => e = .returned (.bool (decide (0 ≤ n ∧ n ≤ 1099511627776))) ∧ w' = w := by
  go_enter Try.func9, Try.ntmps9
  go_wp2
  all_goals go_ret
  all_goals refine ⟨ret_b ?_, rfl⟩
  all_goals simp [*] <;> omega

set_option maxRecDepth 100000 in
set_option maxHeartbeats 1000000 in
theorem awake_any (w : World) : Calls Try.prog 10 #[] w fun e w' => e = .returned (.bool true) ∧ Below w.heap.size w w' := by
  have H0 := Lib.hid (fun w' => new_any 2 10 0 w' (by omega))
  have T1 : Ft 20 0 2 10 0 := ⟨by omega, by omega, by omega, by omega, by omega, by omega, by omega, by omega, by omega, by omega⟩
  have T2 : Ft 10 0 2 10 0 := ⟨by omega, by omega, by omega, by omega, by omega, by omega, by omega, by omega, by omega, by omega⟩
  have T3 : Ft 0 0 2 10 0 := ⟨by omega, by omega, by omega, by omega, by omega, by omega, by omega, by omega, by omega, by omega⟩
  have K1 := Lib.hid (fun w' => take_any T1 w')
  have K2 := Lib.hid (fun w' => take_any T2 w')
  have K3 := Lib.hid (fun w' => take_any T3 w')
  rw [show lv 20 0 2 10 0 = 20 by decide] at K1
  rw [show lv 10 0 2 10 0 = 10 by decide] at K2
  rw [show lv 0 0 2 10 0 = 0 by decide] at K3
  clear T1 T2 T3
  simp only [show ¬ ((20 : Int) < 10) by decide, show ¬ ((10 : Int) < 10) by decide, show ((0 : Int) < 10) by decide, if_true, if_false, decide_true, decide_false, Bool.not_true, Bool.not_false, show (20 : Int) - 10 = 10 by decide, show (10 : Int) - 10 = 0 by decide, show max (0 : Int) 0 = 0 by decide] at K1 K2 K3
  go_enter Try.func10, Try.ntmps10
  go_wp2_with (first
   | (go_at_call 13; refine (H0.out _).mono ?_; rintro e w1 ⟨rfl, o, rfl⟩)
   | (go_at_call 11; with_reducible refine (K1.out _).mono ?_; rintro e w1 ⟨rfl, o, p, q, r, rfl⟩)
   | (go_at_call 11; with_reducible refine (K2.out _).mono ?_; rintro e w1 ⟨rfl, o, p, q, r, rfl⟩)
   | (go_at_call 11; with_reducible refine (K3.out _).mono ?_; rintro e w1 ⟨rfl, o, p, q, r, rfl⟩))
  go_ret
  refine ⟨rfl, ?_⟩
  repeat (first | exact Below.refl _ _ | apply Below.drew | refine Below.alloc ?_ (by simp <;> omega) _)
end Go.Proofs.Ytbaalkkhbcclnaa
