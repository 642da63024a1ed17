/- Wait of the package and of the document; the condition: a fit state and a tick. -/
import Derived.Test.YtbaalkkhbcclnaaLb
namespace Go.Proofs.Ytbaalkkhbcclnaa
open Go.RowKit

/-- How many ticks it lasts until d parts have come, where a come in each. -/
def wtv (d a : Int) : Int := if d ≤ 0 then 0 else (d + a - 1) / a
theorem wtv_rem {d a : Int} (hd : 0 < d) (ha : 0 < a) (h : 0 < d % a) : wtv d a = d / a + 1 := by
  unfold wtv
  rw [if_neg (by omega)]
  have h1 := Int.emod_add_mul_ediv d a
  have h2 := Int.emod_lt_of_pos d ha
  have h3 : d + a - 1 = (d % a - 1) + a * (d / a + 1) := by rw [Int.mul_add]; omega
  rw [h3, Int.add_mul_ediv_left _ _ (by omega), Int.ediv_eq_zero_of_lt (by omega) (by omega)]
  omega
theorem wtv_no {d a : Int} (hd : 0 < d) (ha : 0 < a) (h : ¬ 0 < d % a) : wtv d a = d / a := by
  unfold wtv
  rw [if_neg (by omega)]
  have h1 := Int.emod_add_mul_ediv d a
  have h2 := Int.emod_nonneg d (show a ≠ 0 by omega)
  have h3 : d + a - 1 = (a - 1) + a * (d / a) := by omega
  rw [h3, Int.add_mul_ediv_left _ _ (by omega), Int.ediv_eq_zero_of_lt (by omega) (by omega)]
  omega
theorem div_lt {d a : Int} (hd : 0 < d) (ha : 0 < a) : 0 ≤ d / a ∧ d / a ≤ d := ⟨Int.ediv_nonneg (by omega) (by omega), Int.ediv_le_self _ (by omega)⟩

set_option maxRecDepth 100000 in
set_option maxHeartbeats 1000000 in
theorem lasts_any (d a : Int) (w : World) (hd : d ≤ 1000000) (ha : 1 ≤ a ∧ a ≤ 1000000) : Calls Try.prog 20 #[.int .i64 d, .int .i64 a] w fun e w' => e = .returned (.int .i64 (wtv d a)) ∧ w' = w := by
  by_cases h0 : d ≤ 0
  · rw [show wtv d a = 0 from if_pos h0]
    go_enter Try.func20, Try.ntmps20
    go_wp2
    go_ret
    exact ⟨rfl, rfl⟩
  · by_cases hr : 0 < d % a
    · rw [wtv_rem (by omega) (by omega) hr]
      have hq := div_lt (show 0 < d by omega) (show 0 < a by omega)
      go_enter Try.func20, Try.ntmps20
      go_wp2
      go_ret
      exact ⟨rfl, rfl⟩
    · rw [wtv_no (by omega) (by omega) hr]
      have hq := div_lt (show 0 < d by omega) (show 0 < a by omega)
      go_enter Try.func20, Try.ntmps20
      go_wp2
      go_ret
      exact ⟨rfl, rfl⟩

set_option maxRecDepth 100000 in
set_option maxHeartbeats 1000000 in
theorem wait_any {L l a b n : Int} (h : Ft L l a b n) (w : World) : Calls Try.prog 15 #[.agg #[.int .i64 L, .int .i64 l], .int .i64 a, .int .i64 b, .int .i64 n] w fun e w' => e = .returned (.int .i64 (wtv (b - lv L l a b n) a)) ∧ ∃ o p q, w' = (((w.alloc o).alloc p).alloc q).drew := by
  have H1 := Lib.hid h
  have h1 := h.lv0; have h2 := h.b1; have h3 := h.b2; have h4 := h.ab; have h5 := h.a1; have h6 := h.a2
  clear h
  have hfd : ∀ (v0 v1 : Value) (w : World), (Instr.field 23 (.agg #[v0, v1]) 0).run Try.prog w = .ok v0 w := fun _ _ _ => by kernel_rfl
  have K := Lib.hid (fun w' => asOf_ft H1.out w')
  clear H1
  generalize lv L l a b n = V at *
  go_enter Try.func15, Try.ntmps15
  go_wp2_with (first | (go_at_call 17; refine (K.out _).mono ?_; rintro e w1 ⟨rfl, rfl⟩) | (go_at_call 20; refine (lasts_any _ _ _ (by omega) (by omega)).mono ?_; rintro e w1 ⟨rfl, rfl⟩))
  go_ret
  exact ⟨rfl, _, _, _, rfl⟩

set_option maxRecDepth 100000 in
set_option maxHeartbeats 1000000 in
theorem rwait_any {L l a b n : Int} (h : Ft L l a b n) (w : World) : Calls Try.prog 16 #[.agg #[.int .i64 L, .int .i64 l], .int .i64 a, .int .i64 b, .int .i64 n] w fun e w' => e = .returned (.int .i64 (wtv (b - lv L l a b n) a)) ∧ ∃ o p q, w' = ((w.alloc o).alloc p).alloc q := by
  have H1 := Lib.hid h
  have h1 := h.lv0; have h2 := h.b1; have h3 := h.b2; have h4 := h.ab; have h5 := h.a1; have h6 := h.a2
  clear h
  have K := Lib.hid (fun w' => rnow_any H1.out w')
  clear H1
  generalize lv L l a b n = V at *
  have hV : 0 ≤ V ∧ V ≤ 1000000000000 := by omega
  clear h4 h1
  by_cases h0 : b - V ≤ 0
  · rw [show wtv (b - V) a = 0 from if_pos h0]
    go_enter Try.func16, Try.ntmps16
    go_wp2_with (go_at_call 18; refine (K.out _).mono ?_; rintro e w1 ⟨rfl, o, p, rfl⟩)
    go_ret
    exact ⟨rfl, _, _, _, rfl⟩
  · have hq := div_lt (show 0 < b - V by omega) (show 0 < a by omega)
    have hm := Int.emod_add_mul_ediv (b - V) a
    rw [Int.mul_comm a ((b - V) / a)] at hm
    have hm0 := Int.emod_nonneg (b - V) (show a ≠ 0 by omega)
    by_cases hr : 0 < (b - V) % a
    · rw [wtv_rem (by omega) (by omega) hr]
      have hlt : (b - V) / a * a < b - V := by omega
      have hge : 0 ≤ (b - V) / a * a := Int.mul_nonneg hq.1 (by omega)
      clear hm hm0 hr
      go_enter Try.func16, Try.ntmps16
      go_wp2_with (go_at_call 18; refine (K.out _).mono ?_; rintro e w1 ⟨rfl, o, p, rfl⟩)
      go_ret
      exact ⟨rfl, _, _, _, rfl⟩
    · rw [wtv_no (by omega) (by omega) hr]
      have hlt : ¬ (b - V) / a * a < b - V := by omega
      have hge : (b - V) / a * a ≤ b - V := by omega
      clear hm hm0 hr
      go_enter Try.func16, Try.ntmps16
      go_wp2_with (go_at_call 18; refine (K.out _).mono ?_; rintro e w1 ⟨rfl, o, p, rfl⟩)
      go_ret
      exact ⟨rfl, _, _, _, rfl⟩
end Go.Proofs.Ytbaalkkhbcclnaa
