/- For any state, numbers and tick the law LimitWaits answers true; the conditions: numbers within their bounds. -/
import Derived.Test.YtbaalkkhbcclnaaLawA
namespace Go.Proofs.Ytbaalkkhbcclnaa
open Go.RowKit

theorem wtv_pos (d a : Int) (ha : 1 ≤ a) : 0 ≤ wtv d a := by
  unfold wtv; split
  · omega
  · exact Int.ediv_nonneg (by omega) (by omega)
theorem wtv_come {d a : Int} (ha : 1 ≤ a) : d ≤ a * wtv d a := by
  unfold wtv; split
  · omega
  · have h1 := Int.emod_add_mul_ediv (d + a - 1) a
    have h2 := Int.emod_lt_of_pos (d + a - 1) (show 0 < a by omega)
    omega
theorem wtv_early {d a : Int} (ha : 1 ≤ a) (h : 0 < wtv d a) : 0 < d ∧ a * (wtv d a - 1) < d := by
  unfold wtv at h ⊢
  split at h
  · omega
  · rename_i hd
    rw [if_neg hd]
    have h1 := Int.emod_add_mul_ediv (d + a - 1) a
    have h2 := Int.emod_nonneg (d + a - 1) (show a ≠ 0 by omega)
    rw [Int.mul_sub]
    omega
theorem wtv_le {d a : Int} (ha : 1 ≤ a) (hd : d ≤ 1000000) : wtv d a ≤ 1000000 := by
  have := @wtv_early d a ha
  by_cases h : 0 < wtv d a
  · obtain ⟨h1, h2⟩ := this h
    have h3 : 1 * (wtv d a - 1) ≤ a * (wtv d a - 1) := Int.mul_le_mul_of_nonneg_right ha (by omega)
    omega
  · omega
/-- Behind so many ticks there is a token. -/
theorem lv_late {L l a b n : Int} (h : Ft L l a b n) : ¬ lv L l a b (max n l + wtv (b - lv L l a b n) a) < b := by
  have ha := h.a1; have hb := h.b1; have hab := h.ab
  have hw := wtv_pos (b - lv L l a b n) a ha
  have hc := wtv_come (d := b - lv L l a b n) ha
  have hbb : 1 * b ≤ a * b := Int.mul_le_mul_of_nonneg_right ha (by omega)
  generalize hW : wtv (b - lv L l a b n) a = W at *
  unfold lv at hc ⊢
  rw [show max l (max n l + W) - l = (max l n - l) + W by omega, Int.mul_add]
  omega
/-- Not ahead of them. -/
theorem lv_soon {L l a b n : Int} (h : Ft L l a b n) (h0 : 0 < wtv (b - lv L l a b n) a) : lv L l a b (max n l + wtv (b - lv L l a b n) a - 1) < b := by
  have ha := h.a1; have hb := h.b1; have hab := h.ab
  have hc := wtv_early (d := b - lv L l a b n) ha h0
  have hbb : 1 * b ≤ a * b := Int.mul_le_mul_of_nonneg_right ha (by omega)
  generalize hW : wtv (b - lv L l a b n) a = W at *
  obtain ⟨h1, h2⟩ := hc
  unfold lv at h1 h2 ⊢
  rw [show max l (max n l + W - 1) - l = (max l n - l) + (W - 1) by omega, Int.mul_add]
  omega

set_option maxRecDepth 100000 in
set_option maxHeartbeats 2000000 in
theorem law_waits (L l a b n : Int) (w : World) : Calls Try.prog 4 #[.agg #[.int .i64 L, .int .i64 l], .int .i64 a, .int .i64 b, .int .i64 n] w fun e w' => e = .returned (.bool true) ∧ Below w.heap.size w w' := by
  by_cases hf : fitB L l a b = true
  · by_cases ht : 0 ≤ n ∧ n ≤ 1099511627776
    · have F := fit_ft hf ht.1 ht.2
      have KF := Lib.hid (fun w' => rfit_any L l a b w')
      rw [hf] at KF
      have KT := Lib.hid (fun w' => tick_any n w')
      rw [decide_eq_true ht] at KT
      have KA := Lib.hid (fun w' => wait_any F w')
      have KR := Lib.hid (fun w' => rwait_any F w')
      have h1 := wtv_pos (b - lv L l a b n) a F.a1
      have h2 := wtv_le (d := b - lv L l a b n) F.a1 (by have := F.b2; have := F.lv0; omega)
      have h3 := F.l1; have h4 := F.l2
      have LT := Lib.hid (lv_late F)
      have LS := Lib.hid (lv_soon F)
      have HF := Lib.hid (fun n h1 h2 => fit_ft (n := n) hf h1 h2)
      clear F hf
      generalize wtv (b - lv L l a b n) a = X at *
      by_cases hnl : n < l
      · rw [show max n l = l by omega] at *
        by_cases hx : 1099511627776 < l + X
        · clear LT LS HF
          go_enter Try.func4, Try.ntmps4
          go_wp2_with (first
            | (go_at_call 8; with_reducible refine (KF.out _).mono ?_; rintro e w1 ⟨rfl, o, rfl⟩)
            | (go_at_call 9; refine (KT.out _).mono ?_; rintro e w1 ⟨rfl, rfl⟩)
            | (go_at_call 15; refine (KA.out _).mono ?_; rintro e w1 ⟨rfl, o, p, q, rfl⟩)
            | (go_at_call 16; refine (KR.out _).mono ?_; rintro e w1 ⟨rfl, o, p, q, rfl⟩)
            | (go_at_call 10; refine (awake_any _).mono ?_; rintro e w1 ⟨rfl, b1⟩))
          go_ret
          refine ⟨rfl, below_then b1 ?_⟩
          repeat (with_reducible first | exact Below.refl _ _ | apply below_al | apply Below.drew)
        · have T1 := Lib.hid (fun w' => take_any (HF.out (l + X) (by omega) (by omega)) w')
          rw [decide_eq_false LT.out] at T1
          generalize (if lv L l a b (l + X) < b then lv L l a b (l + X) else lv L l a b (l + X) - b) = Y1 at T1
          generalize max l (l + X) = Z1 at T1
          by_cases hx0 : 0 < X
          · have T2 := Lib.hid (fun w' => take_any (HF.out (l + X - 1) (by omega) (by omega)) w')
            rw [decide_eq_true (LS.out hx0)] at T2
            generalize (if lv L l a b (l + X - 1) < b then lv L l a b (l + X - 1) else lv L l a b (l + X - 1) - b) = Y2 at T2
            generalize max l (l + X - 1) = Z2 at T2
            clear LT LS HF
            go_enter Try.func4, Try.ntmps4
            go_wp2_with (first
              | (go_at_call 8; with_reducible refine (KF.out _).mono ?_; rintro e w1 ⟨rfl, o, rfl⟩)
              | (go_at_call 9; refine (KT.out _).mono ?_; rintro e w1 ⟨rfl, rfl⟩)
              | (go_at_call 15; refine (KA.out _).mono ?_; rintro e w1 ⟨rfl, o, p, q, rfl⟩)
              | (go_at_call 16; refine (KR.out _).mono ?_; rintro e w1 ⟨rfl, o, p, q, rfl⟩)
              | (go_at_call 11; with_reducible refine (T1.out _).mono ?_; rintro e w1 ⟨rfl, o, p, q, r, rfl⟩)
              | (go_at_call 11; with_reducible refine (T2.out _).mono ?_; rintro e w1 ⟨rfl, o, p, q, r, rfl⟩)
              | (go_at_call 10; refine (awake_any _).mono ?_; rintro e w1 ⟨rfl, b1⟩))
            go_ret
            refine ⟨rfl, below_then b1 ?_⟩
            repeat (with_reducible first | exact Below.refl _ _ | apply below_al | apply Below.drew)
          · clear LT LS HF
            go_enter Try.func4, Try.ntmps4
            go_wp2_with (first
              | (go_at_call 8; with_reducible refine (KF.out _).mono ?_; rintro e w1 ⟨rfl, o, rfl⟩)
              | (go_at_call 9; refine (KT.out _).mono ?_; rintro e w1 ⟨rfl, rfl⟩)
              | (go_at_call 15; refine (KA.out _).mono ?_; rintro e w1 ⟨rfl, o, p, q, rfl⟩)
              | (go_at_call 16; refine (KR.out _).mono ?_; rintro e w1 ⟨rfl, o, p, q, rfl⟩)
              | (go_at_call 11; with_reducible refine (T1.out _).mono ?_; rintro e w1 ⟨rfl, o, p, q, r, rfl⟩)
              | (go_at_call 10; refine (awake_any _).mono ?_; rintro e w1 ⟨rfl, b1⟩))
            go_ret
            refine ⟨rfl, below_then b1 ?_⟩
            repeat (with_reducible first | exact Below.refl _ _ | apply below_al | apply Below.drew)
      · rw [show max n l = n by omega] at *
        by_cases hx : 1099511627776 < n + X
        · clear LT LS HF
          go_enter Try.func4, Try.ntmps4
          go_wp2_with (first
            | (go_at_call 8; with_reducible refine (KF.out _).mono ?_; rintro e w1 ⟨rfl, o, rfl⟩)
            | (go_at_call 9; refine (KT.out _).mono ?_; rintro e w1 ⟨rfl, rfl⟩)
            | (go_at_call 15; refine (KA.out _).mono ?_; rintro e w1 ⟨rfl, o, p, q, rfl⟩)
            | (go_at_call 16; refine (KR.out _).mono ?_; rintro e w1 ⟨rfl, o, p, q, rfl⟩)
            | (go_at_call 10; refine (awake_any _).mono ?_; rintro e w1 ⟨rfl, b1⟩))
          go_ret
          refine ⟨rfl, below_then b1 ?_⟩
          repeat (with_reducible first | exact Below.refl _ _ | apply below_al | apply Below.drew)
        · have T1 := Lib.hid (fun w' => take_any (HF.out (n + X) (by omega) (by omega)) w')
          rw [decide_eq_false LT.out] at T1
          generalize (if lv L l a b (n + X) < b then lv L l a b (n + X) else lv L l a b (n + X) - b) = Y1 at T1
          generalize max l (n + X) = Z1 at T1
          by_cases hx0 : 0 < X
          · have T2 := Lib.hid (fun w' => take_any (HF.out (n + X - 1) (by omega) (by omega)) w')
            rw [decide_eq_true (LS.out hx0)] at T2
            generalize (if lv L l a b (n + X - 1) < b then lv L l a b (n + X - 1) else lv L l a b (n + X - 1) - b) = Y2 at T2
            generalize max l (n + X - 1) = Z2 at T2
            clear LT LS HF
            go_enter Try.func4, Try.ntmps4
            go_wp2_with (first
              | (go_at_call 8; with_reducible refine (KF.out _).mono ?_; rintro e w1 ⟨rfl, o, rfl⟩)
              | (go_at_call 9; refine (KT.out _).mono ?_; rintro e w1 ⟨rfl, rfl⟩)
              | (go_at_call 15; refine (KA.out _).mono ?_; rintro e w1 ⟨rfl, o, p, q, rfl⟩)
              | (go_at_call 16; refine (KR.out _).mono ?_; rintro e w1 ⟨rfl, o, p, q, rfl⟩)
              | (go_at_call 11; with_reducible refine (T1.out _).mono ?_; rintro e w1 ⟨rfl, o, p, q, r, rfl⟩)
              | (go_at_call 11; with_reducible refine (T2.out _).mono ?_; rintro e w1 ⟨rfl, o, p, q, r, rfl⟩)
              | (go_at_call 10; refine (awake_any _).mono ?_; rintro e w1 ⟨rfl, b1⟩))
            go_ret
            refine ⟨rfl, below_then b1 ?_⟩
            repeat (with_reducible first | exact Below.refl _ _ | apply below_al | apply Below.drew)
          · clear LT LS HF
            go_enter Try.func4, Try.ntmps4
            go_wp2_with (first
              | (go_at_call 8; with_reducible refine (KF.out _).mono ?_; rintro e w1 ⟨rfl, o, rfl⟩)
              | (go_at_call 9; refine (KT.out _).mono ?_; rintro e w1 ⟨rfl, rfl⟩)
              | (go_at_call 15; refine (KA.out _).mono ?_; rintro e w1 ⟨rfl, o, p, q, rfl⟩)
              | (go_at_call 16; refine (KR.out _).mono ?_; rintro e w1 ⟨rfl, o, p, q, rfl⟩)
              | (go_at_call 11; with_reducible refine (T1.out _).mono ?_; rintro e w1 ⟨rfl, o, p, q, r, rfl⟩)
              | (go_at_call 10; refine (awake_any _).mono ?_; rintro e w1 ⟨rfl, b1⟩))
            go_ret
            refine ⟨rfl, below_then b1 ?_⟩
            repeat (with_reducible first | exact Below.refl _ _ | apply below_al | apply Below.drew)
    · have KF := Lib.hid (fun w' => rfit_any L l a b w')
      rw [hf] at KF
      have KT := Lib.hid (fun w' => tick_any n w')
      rw [decide_eq_false ht] at KT
      clear hf ht
      go_enter Try.func4, Try.ntmps4
      go_wp2_with (first
        | (go_at_call 8; with_reducible refine (KF.out _).mono ?_; rintro e w1 ⟨rfl, o, rfl⟩)
        | (go_at_call 9; refine (KT.out _).mono ?_; rintro e w1 ⟨rfl, rfl⟩)
        | (go_at_call 10; refine (awake_any _).mono ?_; rintro e w1 ⟨rfl, b1⟩))
      go_ret
      refine ⟨rfl, below_then b1 ?_⟩
      repeat (with_reducible first | exact Below.refl _ _ | apply below_al | apply Below.drew)
  · have KF := Lib.hid (fun w' => rfit_any L l a b w')
    rw [show fitB L l a b = false by simpa using hf] at KF
    clear hf
    go_enter Try.func4, Try.ntmps4
    go_wp2_with (first
      | (go_at_call 8; with_reducible refine (KF.out _).mono ?_; rintro e w1 ⟨rfl, o, rfl⟩)
      | (go_at_call 10; refine (awake_any _).mono ?_; rintro e w1 ⟨rfl, b1⟩))
    go_ret
    refine ⟨rfl, below_then b1 ?_⟩
    repeat (with_reducible first | exact Below.refl _ _ | apply below_al | apply Below.drew)
end Go.Proofs.Ytbaalkkhbcclnaa
