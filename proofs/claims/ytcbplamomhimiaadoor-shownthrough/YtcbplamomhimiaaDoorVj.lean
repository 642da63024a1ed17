/- A core, a wrapper and a chain that are fit, by the document: what of them counts here; the conditions: the chain and its patterns where they are told to lie. -/
import Derived.Test.YtcbplamomhimiaaDoorVi
namespace Go.Proofs.YtcbplamomhimiaaDoor
open Go.RowKit

set_option maxRecDepth 100000 in
set_option maxHeartbeats 4000000 in
theorem stateful_any (o : Int) : ∃ b, ∀ w, Calls Tryd.prog 52 #[.int .i64 o] w fun e w' => e = .returned (.bool b) ∧ w' = w := by
  by_cases h2 : o = 2
  · subst h2; refine ⟨true, fun w => ?_⟩
    go_enter Tryd.func52, Tryd.ntmps52
    go_wp2; go_ret; exact ⟨rfl, rfl⟩
  by_cases h3 : o = 3
  · subst h3; refine ⟨true, fun w => ?_⟩
    go_enter Tryd.func52, Tryd.ntmps52
    go_wp2; go_ret; exact ⟨rfl, rfl⟩
  by_cases h4 : o = 4
  · subst h4; refine ⟨true, fun w => ?_⟩
    go_enter Tryd.func52, Tryd.ntmps52
    go_wp2; go_ret; exact ⟨rfl, rfl⟩
  · refine ⟨(o == 12), fun w => ?_⟩
    have q2 : (o == 2) = false := by simpa using h2
    have q3 : (o == 3) = false := by simpa using h3
    have q4 : (o == 4) = false := by simpa using h4
    clear h2 h3 h4
    go_enter Tryd.func52, Tryd.ntmps52
    go_wp2; go_ret; exact ⟨rfl, rfl⟩
set_option maxRecDepth 100000 in
set_option maxHeartbeats 4000000 in
theorem proper8_any (o : Int) (c : Nat) (hc : c < 4294967296) : ∃ b, (b = true → c.testBit 10 = false) ∧ ∀ w, Calls Tryd.prog 42 #[.int .i64 o, .int .u32 (c : Nat)] w fun e w' => e = .returned (.bool b) ∧ w' = w := by
  have KF := Lib.hid (rfix_any c hc)
  obtain ⟨tb, htb⟩ : ∃ tb : Int → Bool, tb = fun k => c.testBit k.toNat := ⟨_, rfl⟩
  have KH : Hid (∀ (k : Int) (W : World), 0 ≤ k → k < 11 → Calls Tryd.prog 37 #[.int .u32 (c : Nat), .int .i64 k] W fun e w' => e = .returned (.bool (tb k)) ∧ w' = W) := fun k W h0 h1 => by
    obtain ⟨j, rfl⟩ : ∃ j : Nat, k = j := ⟨k.toNat, by omega⟩
    have := rhas_any c j hc (by omega) W
    rw [htb]; exact this
  have e10 : c.testBit 10 = tb 10 := by rw [htb]; rfl
  rw [e10]
  clear e10 htb
  obtain ⟨st, hst⟩ := stateful_any o
  have KS := Lib.hid hst
  clear hst
  have hfl := fix_lt c
  generalize fixS c = X at KF hfl
  by_cases hx : X = c
  · subst hx
    cases h10 : tb 10 with
    | true =>
      refine ⟨false, fun h => (by cases h), fun w => ?_⟩
      go_enter Tryd.func42, Tryd.ntmps42
      go_wp2_with (first
        | (go_at_call 51; refine (KF.out _).mono ?_; rintro e w1 ⟨rfl, rfl⟩)
        | (go_at_call 37; refine (KH.out _ _ (by decide) (by decide)).mono ?_; rintro e w2 ⟨rfl, rfl⟩))
      go_ret
      exact ⟨rfl, rfl⟩
    | false =>
      cases st with
      | true =>
        refine ⟨true, fun _ => rfl, fun w => ?_⟩
        go_enter Tryd.func42, Tryd.ntmps42
        go_wp2_with (first
          | (go_at_call 51; refine (KF.out _).mono ?_; rintro e w1 ⟨rfl, rfl⟩)
          | (go_at_call 37; refine (KH.out _ _ (by decide) (by decide)).mono ?_; rintro e w2 ⟨rfl, rfl⟩)
          | (go_at_call 52; refine (KS.out _).mono ?_; rintro e w3 ⟨rfl, rfl⟩))
        go_ret
        exact ⟨rfl, rfl⟩
      | false =>
        refine ⟨!tb 6 && !tb 7, fun _ => rfl, fun w => ?_⟩
        cases h6 : tb 6
        all_goals
          go_enter Tryd.func42, Tryd.ntmps42
          go_wp2_with (first
            | (go_at_call 51; refine (KF.out _).mono ?_; rintro e w1 ⟨rfl, rfl⟩)
            | (go_at_call 37; refine (KH.out _ _ (by decide) (by decide)).mono ?_; rintro e w2 ⟨rfl, rfl⟩)
            | (go_at_call 52; refine (KS.out _).mono ?_; rintro e w3 ⟨rfl, rfl⟩))
          go_ret
          exact ⟨by first | rfl | (cases tb 7 <;> rfl), rfl⟩
  · have q : (((X : Nat) : Int) == (c : Int)) = false := by simp; omega
    have q2 : (((X : Nat) : Int) != (c : Int)) = true := by simp; omega
    refine ⟨false, fun h => (by cases h), fun w => ?_⟩
    clear hx KH
    go_enter Tryd.func42, Tryd.ntmps42
    go_wp2_with (first
      | (go_at_call 51; refine (KF.out _).mono ?_; rintro e w1 ⟨rfl, rfl⟩))
    go_ret
    exact ⟨rfl, rfl⟩
def NumC (o : Int) : Prop := ∃ (nb : Bool) (x y z : Int), ∀ w, Calls Tryd.prog 43 #[.int .i64 o] w fun e w' => e = .returned (.agg #[.bool nb, .int .i64 x, .int .i64 y, .int .i64 z]) ∧ Below w.heap.size w w'
set_option maxRecDepth 100000 in
set_option maxHeartbeats 4000000 in
theorem num3 : NumC 3 := by
  refine ⟨true, 0, 1000000, 0, fun w => ?_⟩
  go_enter Tryd.func43, Tryd.ntmps43
  go_wp2
  exact bodyPost_ret (v := .agg #[.bool true, .int .i64 0, .int .i64 1000000, .int .i64 0]) (by simp [results, Tryd.results43, go_sem]) rfl ⟨rfl, by first | exact below1 _ _ | exact (below1 _ _).setCell (by simp) _⟩
set_option maxRecDepth 100000 in
set_option maxHeartbeats 4000000 in
theorem num7 : NumC 7 := by
  refine ⟨true, (-9223372036854775808), 9223372036854775807, 1, fun w => ?_⟩
  go_enter Tryd.func43, Tryd.ntmps43
  go_wp2
  exact bodyPost_ret (v := .agg #[.bool true, .int .i64 (-9223372036854775808), .int .i64 9223372036854775807, .int .i64 1]) (by simp [results, Tryd.results43, go_sem]) rfl ⟨rfl, by first | exact below1 _ _ | exact (below1 _ _).setCell (by simp) _⟩
set_option maxRecDepth 100000 in
set_option maxHeartbeats 4000000 in
theorem num8 : NumC 8 := by
  refine ⟨true, (-9223372036854775808), 9223372036854775807, 1, fun w => ?_⟩
  go_enter Tryd.func43, Tryd.ntmps43
  go_wp2
  exact bodyPost_ret (v := .agg #[.bool true, .int .i64 (-9223372036854775808), .int .i64 9223372036854775807, .int .i64 1]) (by simp [results, Tryd.results43, go_sem]) rfl ⟨rfl, by first | exact below1 _ _ | exact (below1 _ _).setCell (by simp) _⟩
set_option maxRecDepth 100000 in
set_option maxHeartbeats 4000000 in
theorem num9 : NumC 9 := by
  refine ⟨true, (-9223372036854775808), 9223372036854775807, 0, fun w => ?_⟩
  go_enter Tryd.func43, Tryd.ntmps43
  go_wp2
  exact bodyPost_ret (v := .agg #[.bool true, .int .i64 (-9223372036854775808), .int .i64 9223372036854775807, .int .i64 0]) (by simp [results, Tryd.results43, go_sem]) rfl ⟨rfl, by first | exact below1 _ _ | exact (below1 _ _).setCell (by simp) _⟩
set_option maxRecDepth 100000 in
set_option maxHeartbeats 4000000 in
theorem num_no (o : Int) (h3 : o ≠ 3) (h7 : o ≠ 7) (h8 : o ≠ 8) (h9 : o ≠ 9) : NumC o := by
  have q3 : (o == 3) = false := by simpa using h3
  have q7 : (o == 7) = false := by simpa using h7
  have q8 : (o == 8) = false := by simpa using h8
  have q9 : (o == 9) = false := by simpa using h9
  clear h3 h7 h8 h9
  refine ⟨false, 0, 0, 0, fun w => ?_⟩
  go_enter Tryd.func43, Tryd.ntmps43
  go_wp2
  exact bodyPost_ret (v := .agg #[.bool false, .int .i64 0, .int .i64 0, .int .i64 0]) (by simp [results, Tryd.results43, go_sem]) rfl ⟨rfl, by first | exact below1 _ _ | exact (below1 _ _).setCell (by simp) _⟩
theorem num_any (o : Int) : NumC o := by
  by_cases h3 : o = 3
  · subst h3; exact num3
  by_cases h7 : o = 7
  · subst h7; exact num7
  by_cases h8 : o = 8
  · subst h8; exact num8
  by_cases h9 : o = 9
  · subst h9; exact num9
  exact num_no o h3 h7 h8 h9
/-! ### a core -/
set_option maxRecDepth 100000 in
set_option maxHeartbeats 4000000 in
theorem rcore_any (o num : Int) (c : Nat) (hc : c < 4294967296) : ∃ b, (b = true → c < 1024) ∧ ∀ w, Calls Tryd.prog 28 #[.agg #[.int .i64 o, .int .i64 num, .int .u32 (c : Nat)]] w fun e w' => e = .returned (.bool b) ∧ Below w.heap.size w w' := by
  by_cases h0 : o < 1
  · refine ⟨false, fun h => (by cases h), fun w => ?_⟩
    go_enter Tryd.func28, Tryd.ntmps28
    go_wp2
    go_ret
    exact ⟨rfl, below1 _ _⟩
  by_cases h1 : 13 ≤ o
  · refine ⟨false, fun h => (by cases h), fun w => ?_⟩
    go_enter Tryd.func28, Tryd.ntmps28
    go_wp2
    go_ret
    exact ⟨rfl, below1 _ _⟩
  have KV := Lib.hid (rvalid_any c)
  by_cases h2 : c ≤ 2047
  · rw [decide_eq_true h2] at KV
    obtain ⟨pb, hpb, hP⟩ := proper8_any o c hc
    have KP := Lib.hid hP
    clear hP
    cases pb with
    | false =>
      refine ⟨false, fun h => (by cases h), fun w => ?_⟩
      have b0 := On.start w (.cells #[.int .i64 o, .int .i64 num, .int .u32 (c : Nat)] 25)
      go_enter Tryd.func28, Tryd.ntmps28
      go_wp2_with (first
        | (go_at_call 41; refine (KV.out _).mono ?_; rintro e w1 ⟨rfl, rfl⟩)
        | (go_at_call 42; refine (KP.out _).mono ?_; rintro e w2 ⟨rfl, rfl⟩))
      go_ret
      exact ⟨rfl, below1 _ _⟩
    | true =>
      have hlt : c < 1024 := by
        have h10 := hpb rfl
        have h11 : c < 2 ^ 10 := lt_of_bits fun i hi => by
          have : i < 11 := lt_bits (n := 11) (show c < 2 ^ 11 by omega) hi
          rcases Nat.lt_or_ge i 10 with h | h
          · exact h
          · obtain rfl : i = 10 := by omega
            rw [h10] at hi; cases hi
        exact h11
      obtain ⟨nb, x, y, z, hn⟩ := num_any o
      have KN : Hid (∀ w wx, On w (.cells #[.int .i64 o, .int .i64 num, .int .u32 (c : Nat)] 25) wx → Calls Tryd.prog 43 #[.int .i64 o] wx fun e w' => e = .returned (.agg #[.bool nb, .int .i64 x, .int .i64 y, .int .i64 z]) ∧ On w (.cells #[.int .i64 o, .int .i64 num, .int .u32 (c : Nat)] 25) w') := fun w wx hx => (hn wx).mono fun e w' ⟨a, b⟩ => ⟨a, hx.step b⟩
      clear hn hpb
      cases nb with
      | false =>
        refine ⟨(num == 0), fun _ => hlt, fun w => ?_⟩
        have b0 := On.start w (.cells #[.int .i64 o, .int .i64 num, .int .u32 (c : Nat)] 25)
        have HS : Hid (∀ wx, On w (.cells #[.int .i64 o, .int .i64 num, .int .u32 (c : Nat)] 25) wx → wx.cell? ⟨w.heap.size, 1, none⟩ = some (.int .i64 num) ∧ w.heap.size < wx.heap.size) := fun wx h => ⟨h.cell 1, by have := h.size; omega⟩
        clear hlt
        go_enter Tryd.func28, Tryd.ntmps28
        go_wp2_with (first
          | (go_at_call 41; refine (KV.out _).mono ?_; rintro e w1 ⟨rfl, rfl⟩)
          | (go_at_call 42; refine (KP.out _).mono ?_; rintro e w2 ⟨rfl, rfl⟩)
          | (go_at_call 43; refine (KN.out _ _ b0).mono ?_; rintro e w3 ⟨rfl, b3⟩; obtain ⟨x1, x2⟩ := HS.out _ b3))
        go_ret
        exact ⟨rfl, (b3.step (below1 _ _)).below⟩
      | true =>
        refine ⟨decide (x ≤ num) && decide (num ≤ y), fun _ => hlt, fun w => ?_⟩
        have b0 := On.start w (.cells #[.int .i64 o, .int .i64 num, .int .u32 (c : Nat)] 25)
        have HS : Hid (∀ wx, On w (.cells #[.int .i64 o, .int .i64 num, .int .u32 (c : Nat)] 25) wx → wx.cell? ⟨w.heap.size, 1, none⟩ = some (.int .i64 num) ∧ w.heap.size < wx.heap.size) := fun wx h => ⟨h.cell 1, by have := h.size; omega⟩
        clear hlt
        by_cases hx : x ≤ num
        · rw [decide_eq_true hx]
          go_enter Tryd.func28, Tryd.ntmps28
          go_wp2_with (first
            | (go_at_call 41; refine (KV.out _).mono ?_; rintro e w1 ⟨rfl, rfl⟩)
            | (go_at_call 42; refine (KP.out _).mono ?_; rintro e w2 ⟨rfl, rfl⟩)
            | (go_at_call 43; refine (KN.out _ _ b0).mono ?_; rintro e w3 ⟨rfl, b3⟩; obtain ⟨x1, x2⟩ := HS.out _ b3))
          go_ret
          exact ⟨rfl, (b3.step (below1 _ _)).below⟩
        · rw [decide_eq_false hx]
          go_enter Tryd.func28, Tryd.ntmps28
          go_wp2_with (first
            | (go_at_call 41; refine (KV.out _).mono ?_; rintro e w1 ⟨rfl, rfl⟩)
            | (go_at_call 42; refine (KP.out _).mono ?_; rintro e w2 ⟨rfl, rfl⟩)
            | (go_at_call 43; refine (KN.out _ _ b0).mono ?_; rintro e w3 ⟨rfl, b3⟩; obtain ⟨x1, x2⟩ := HS.out _ b3))
          go_ret
          exact ⟨rfl, (b3.step (below1 _ _)).below⟩
  · rw [decide_eq_false h2] at KV
    refine ⟨false, fun h => (by cases h), fun w => ?_⟩
    go_enter Tryd.func28, Tryd.ntmps28
    go_wp2_with (first
      | (go_at_call 41; refine (KV.out _).mono ?_; rintro e w1 ⟨rfl, rfl⟩))
    go_ret
    exact ⟨rfl, below1 _ _⟩
end Go.Proofs.YtcbplamomhimiaaDoor
