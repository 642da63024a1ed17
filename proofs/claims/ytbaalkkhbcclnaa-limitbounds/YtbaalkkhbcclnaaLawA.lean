/- For any state, numbers and tick the law LimitTakes answers true; the conditions: numbers within their bounds. -/
import Derived.Test.YtbaalkkhbcclnaaLc
namespace Go.Proofs.Ytbaalkkhbcclnaa
open Go.RowKit

theorem below_al {w w' : World} {o : Obj} (h : Below w.heap.size w w') : Below w.heap.size w (w'.alloc o) := h.alloc h.size o
theorem below_then {w w' w1 : World} (b : Below w'.heap.size w' w1) (h : Below w.heap.size w w') : Below w.heap.size w w1 := h.trans (b.mono h.size)
theorem take_fit {L l a b n : Int} (h : Ft L l a b n) : Ft (if lv L l a b n < b then lv L l a b n else lv L l a b n - b) (max l n) a b n := by
  have h1 := h.lv0; have h2 := h.b1; have h3 := h.b2; have h4 := h.ab
  have := h.l1; have := h.l2; have := h.n1; have := h.n2
  refine ⟨h.a1, h.a2, h.b1, h.b2, ?_, ?_, by omega, by omega, h.n1, h.n2⟩ <;> split <;> omega

set_option maxRecDepth 100000 in
set_option maxHeartbeats 2000000 in
theorem law_takes (L l a b n : Int) (w : World) : Calls Try.prog 3 #[.agg #[.int .i64 L, .int .i64 l], .int .i64 a, .int .i64 b, .int .i64 n] w fun e w' => e = .returned (.bool true) ∧ Below w.heap.size w w' := by
  by_cases hf : fitB L l a b = true
  · by_cases ht : 0 ≤ n ∧ n ≤ 1099511627776
    · have F := fit_ft hf ht.1 ht.2
      have KF := Lib.hid (fun w' => rfit_any L l a b w')
      rw [hf] at KF
      have KT := Lib.hid (fun w' => tick_any n w')
      rw [decide_eq_true ht] at KT
      have KA := Lib.hid (fun w' => take_any F w')
      have KR := Lib.hid (fun w' => rtake_any F w')
      have F2 := take_fit F
      have KG := Lib.hid (fun w' => rfit_any (if lv L l a b n < b then lv L l a b n else lv L l a b n - b) (max l n) a b w')
      rw [ft_fit F2] at KG
      have hab := F.ab
      have KN := Lib.hid (fun w' => new_any a b n w' (by omega))
      have KM := Lib.hid (fun w' => rnew_any a b n w' (by omega))
      clear F F2 hf ht hab
      generalize (if lv L l a b n < b then lv L l a b n else lv L l a b n - b) = X at *
      generalize max l n = Y at *
      generalize (!decide (lv L l a b n < b)) = Z at *
      go_enter Try.func3, Try.ntmps3
      go_wp2_with (first
        | (go_at_call 8; with_reducible refine (KF.out _).mono ?_; rintro e w1 ⟨rfl, o, rfl⟩)
        | (go_at_call 8; with_reducible refine (KG.out _).mono ?_; rintro e w1 ⟨rfl, o, rfl⟩)
        | (go_at_call 9; refine (KT.out _).mono ?_; rintro e w1 ⟨rfl, rfl⟩)
        | (go_at_call 11; refine (KA.out _).mono ?_; rintro e w1 ⟨rfl, o, p, q, r, rfl⟩)
        | (go_at_call 12; refine (KR.out _).mono ?_; rintro e w1 ⟨rfl, o, p, q, r, rfl⟩)
        | (go_at_call 13; refine (KN.out _).mono ?_; rintro e w1 ⟨rfl, o, rfl⟩)
        | (go_at_call 14; refine (KM.out _).mono ?_; rintro e w1 ⟨rfl, o, rfl⟩)
        | (go_at_call 10; refine (awake_any _).mono ?_; rintro e w1 ⟨rfl, b1⟩))
      go_ret
      refine ⟨rfl, below_then b1 ?_⟩
      repeat (with_reducible first | exact Below.refl _ _ | apply below_al | apply Below.drew)
    · have KF := Lib.hid (fun w' => rfit_any L l a b w')
      rw [hf] at KF
      have KT := Lib.hid (fun w' => tick_any n w')
      rw [decide_eq_false ht] at KT
      clear hf ht
      go_enter Try.func3, Try.ntmps3
      go_wp2_with (first
        | (go_at_call 8; with_reducible refine (KF.out _).mono ?_; rintro e w1 ⟨rfl, o, rfl⟩)
        | (go_at_call 9; refine (KT.out _).mono ?_; rintro e w1 ⟨rfl, rfl⟩)
        | (go_at_call 10; refine (awake_any _).mono ?_; rintro e w1 ⟨rfl, b1⟩))
      go_ret
      refine ⟨rfl, below_then b1 ?_⟩
      repeat (with_reducible first | exact Below.refl _ _ | apply below_al | apply Below.drew)
  · have KF := Lib.hid (fun w' => rfit_any L l a b w')
    rw [show fitB L l a b = false by simpa using hf] at KF
    clear hf
    go_enter Try.func3, Try.ntmps3
    go_wp2_with (first
      | (go_at_call 8; with_reducible refine (KF.out _).mono ?_; rintro e w1 ⟨rfl, o, rfl⟩)
      | (go_at_call 10; refine (awake_any _).mono ?_; rintro e w1 ⟨rfl, b1⟩))
    go_ret
    refine ⟨rfl, below_then b1 ?_⟩
    repeat (with_reducible first | exact Below.refl _ _ | apply below_al | apply Below.drew)
end Go.Proofs.Ytbaalkkhbcclnaa
