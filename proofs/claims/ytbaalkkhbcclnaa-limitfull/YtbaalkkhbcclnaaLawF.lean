/- For any numbers and tick the law LimitFull answers true; no other condition. -/
import Derived.Test.YtbaalkkhbcclnaaLd
namespace Go.Proofs.Ytbaalkkhbcclnaa
open Go.RowKit

theorem lv_same {L a b n : Int} (h : L ≤ a * b) : lv L n a b n = L := by
  unfold lv
  rw [show max n n - n = 0 by omega, Int.mul_zero]
  omega

set_option maxRecDepth 100000 in
set_option maxHeartbeats 2000000 in
theorem full_in (a b n : Int) (a1 : 1 ≤ a) (a2 : a ≤ 2000) (b1 : 1 ≤ b) (b2 : b ≤ 1000000) (n1 : 0 ≤ n) (n2 : n ≤ 1099511627776) (w : World) : Calls Try.prog 7 #[.int .i64 a, .int .i64 b, .int .i64 n] w fun e w' => e = .returned (.bool true) ∧ Below w.heap.size w w' := by
  have KT := Lib.hid (fun w' => tick_any n w')
  rw [decide_eq_true ⟨n1, n2⟩] at KT
  have hab : 0 ≤ a * b ∧ a * b ≤ 1000000000000 := by
    have h1 : a * b ≤ 2000 * b := Int.mul_le_mul_of_nonneg_right a2 (by omega)
    have h2 := Int.mul_nonneg (show 0 ≤ a by omega) (show 0 ≤ b by omega)
    omega
  have KN := Lib.hid (fun w' => new_any a b n w' (by omega))
  have FT : ∀ j : Nat, (j : Int) ≤ a → Ft (a * b - j * b) n a b n := fun j hj => by
    have h1 : j * b ≤ a * b := Int.mul_le_mul_of_nonneg_right hj (by omega)
    have h2 : 0 ≤ (j : Int) * b := Int.mul_nonneg (by omega) (by omega)
    exact ⟨by omega, by omega, b1, b2, by omega, by omega, n1, n2, n1, n2⟩
  have LV : ∀ j : Nat, (j : Int) ≤ a → lv (a * b - j * b) n a b n = a * b - j * b := fun j hj => lv_same (FT j hj).L2
  have TK := Lib.hid (fun (j : Nat) (hj : (j : Int) < a) w' => show Calls Try.prog 11 #[.agg #[.int .i64 (a * b - j * b), .int .i64 n], .int .i64 a, .int .i64 b, .int .i64 n] w' fun e w'' => e = .returned (.tuple #[.agg #[.int .i64 (a * b - (j + 1 : Nat) * b), .int .i64 n], .bool true]) ∧ Below w'.heap.size w' w'' from by
    have h := take_b (FT j (by omega)) w'
    rw [LV j (by omega)] at h
    have h1 : ((j : Int) + 1) * b ≤ a * b := Int.mul_le_mul_of_nonneg_right (by omega) (by omega)
    have h2 : ((j : Int) + 1) * b = j * b + b := by rw [Int.add_mul]; omega
    have hn : ¬ a * b - j * b < b := by omega
    rw [if_neg hn, decide_eq_false hn, show max n n = n by omega] at h
    rw [show a * b - ((j + 1 : Nat) : Int) * b = a * b - j * b - b by rw [show ((j + 1 : Nat) : Int) = (j : Int) + 1 by omega]; omega]
    exact h)
  have TE := Lib.hid (fun w' => show Calls Try.prog 11 #[.agg #[.int .i64 0, .int .i64 n], .int .i64 a, .int .i64 b, .int .i64 n] w' fun e w'' => e = .returned (.tuple #[.agg #[.int .i64 0, .int .i64 n], .bool false]) ∧ Below w'.heap.size w' w'' from by
    have hF : Ft 0 n a b n := ⟨by omega, by omega, b1, b2, by omega, by omega, n1, n2, n1, n2⟩
    have h := take_b hF w'
    rw [lv_same (by omega), if_pos (by omega), decide_eq_true (by omega), show max n n = n by omega] at h
    exact h)
  clear FT LV
  go_enter Try.func7, Try.ntmps7
  go_wp2_with (first
        | (go_at_call 9; refine (KT.out _).mono ?_; rintro e w1 ⟨rfl, hq⟩; rw [hq]; clear hq w1)
        | (go_at_call 13; refine (KN.out _).mono ?_; rintro e w1 ⟨rfl, o, rfl⟩)
        | (go_at_call 10; refine (awake_any _).mono ?_; rintro e w1 ⟨rfl, b1⟩))
  have S0 := Lib.hid (show Bk ((w.alloc o).alloc (.cells #[.int .i64 (a * b), .int .i64 n] 23)) (w.heap.size + 1) #[.int .i64 (a * b - (0 : Nat) * b), .int .i64 n] 23 ∧ Below w.heap.size w ((w.alloc o).alloc (.cells #[.int .i64 (a * b), .int .i64 n] 23)) from ⟨by
    have := Bk.new (w.alloc o) #[.int .i64 (a * b), .int .i64 n] 23
    rw [World.size_alloc] at this
    simpa using this, below2 w _ _⟩)
  go_loopw [8, 9] (fun so si wr => ∃ j : Nat, so = .bool true ∧ si = .int .i64 j ∧ (j : Int) ≤ a ∧ Hid (Bk wr (w.heap.size + 1) #[.int .i64 (a * b - j * b), .int .i64 n] 23 ∧ Below w.heap.size w wr)) (fun _ si _ => (a - intOf si).toNat)
  case atStart => exact ⟨0, rfl, rfl, by omega, S0⟩
  case round =>
    obtain ⟨j, rfl, rfl, hj, hR⟩ := hrel
    obtain ⟨bk, bl⟩ := hR.out
    have c0 : wr.cell? ⟨w.heap.size + 1, 0, none⟩ = _ := bk.c 0
    have c1 : wr.cell? ⟨w.heap.size + 1, 1, none⟩ = _ := bk.c 1
    simp at c0 c1
    have BK := Lib.hid bk
    have BL := Lib.hid bl
    clear bk bl hR S0
    by_cases hja : (j : Int) < a
    · go_wp2_with (go_at_call 11; refine (TK.out j hja _).mono ?_; rintro e w1 ⟨rfl, b1⟩; have bk1 := BK.out.step b1; have d0 : w1.cell? ⟨w.heap.size + 1, 0, none⟩ = _ := bk1.c 0; have d1 : w1.cell? ⟨w.heap.size + 1, 1, none⟩ = _ := bk1.c 1; simp at d0 d1; have g0 : w1.frozen? ⟨w.heap.size + 1, 0, none⟩ = _ := bk1.f 0; have g1 : w1.frozen? ⟨w.heap.size + 1, 1, none⟩ = _ := bk1.f 1; have BM := Lib.hid (below_then b1 BL.out); have BN := Lib.hid bk1; clear bk1 b1)
      obtain ⟨s1, s2⟩ := Bk.set2 (x0 := .int .i64 (a * b - ((j : Int) + 1) * b)) (x1 := .int .i64 n) BN.out
      exact ⟨⟨j + 1, rfl, by simp, by omega, Lib.hid ⟨by simpa using s1, BM.out.trans (s2.mono (by omega))⟩⟩, by simp [intOf]; omega⟩
    · have e0 : a * b - j * b = 0 := by rw [show (j : Int) = a by omega]; omega
      rw [e0] at c0
      clear e0
      go_wp2_with (first
        | (go_at_call 11; refine (TE.out _).mono ?_; rintro e w1 ⟨rfl, b1⟩; have BM := Lib.hid (below_then b1 BL.out); clear b1)
        | (go_at_call 10; refine (awake_any _).mono ?_; rintro e w2 ⟨rfl, b2⟩))
      go_ret
      exact ⟨rfl, below_then b2 (below_al BM.out)⟩

set_option maxRecDepth 100000 in
set_option maxHeartbeats 2000000 in
theorem law_full (a b n : Int) (w : World) : Calls Try.prog 7 #[.int .i64 a, .int .i64 b, .int .i64 n] w fun e w' => e = .returned (.bool true) ∧ Below w.heap.size w w' := by
  by_cases h : (1 ≤ a ∧ a ≤ 2000 ∧ 1 ≤ b ∧ b ≤ 1000000) ∧ (0 ≤ n ∧ n ≤ 1099511627776)
  · exact full_in a b n h.1.1 h.1.2.1 h.1.2.2.1 h.1.2.2.2 h.2.1 h.2.2 w
  · have KT := Lib.hid (fun w' => tick_any n w')
    by_cases hn : 0 ≤ n ∧ n ≤ 1099511627776
    · rw [decide_eq_true hn] at KT
      have h' : ¬ (1 ≤ a ∧ a ≤ 2000 ∧ 1 ≤ b ∧ b ≤ 1000000) := fun g => h ⟨g, hn⟩
      have HQ := Lib.hid h'
      clear h hn h'
      go_enter Try.func7, Try.ntmps7
      go_wp2_with (first
        | (go_at_call 9; refine (KT.out _).mono ?_; rintro e w1 ⟨rfl, hq⟩; rw [hq]; clear hq w1)
        | (go_at_call 13; exfalso; exact HQ.out (by omega))
        | (go_at_call 10; refine (awake_any _).mono ?_; rintro e w2 ⟨rfl, b2⟩))
      all_goals go_ret
      all_goals exact ⟨rfl, b2⟩
    · rw [decide_eq_false hn] at KT
      clear h hn
      go_enter Try.func7, Try.ntmps7
      go_wp2_with (first
        | (go_at_call 9; refine (KT.out _).mono ?_; rintro e w1 ⟨rfl, hq⟩; rw [hq]; clear hq w1)
        | (go_at_call 10; refine (awake_any _).mono ?_; rintro e w2 ⟨rfl, b2⟩))
      all_goals go_ret
      all_goals exact ⟨rfl, b2⟩
end Go.Proofs.Ytbaalkkhbcclnaa
