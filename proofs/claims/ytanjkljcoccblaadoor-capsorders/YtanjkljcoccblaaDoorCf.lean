/- Fix and Grow of the package: the greatest proper set within, the least around; what is asked of the world: the table of needs as its text lays it. -/
import Derived.Test.YtanjkljcoccblaaDoorCt
namespace Go.Proofs.YtanjkljcoccblaaDoor
open Go.RowKit

def fixn (c : Nat) : Nat → Nat
  | 0 => c &&& 2047
  | 1 => fst (c &&& 2047) 2 0
  | 2 => fst (fst (c &&& 2047) 2 0) 7 6
  | 3 => fst (fst (fst (c &&& 2047) 2 0) 7 6) 3 9
  | _ => fixS c
def gron (c : Nat) : Nat → Nat
  | 0 => c &&& 2047
  | 1 => gst (c &&& 2047) 2 0
  | 2 => gst (gst (c &&& 2047) 2 0) 7 6
  | 3 => gst (gst (gst (c &&& 2047) 2 0) 7 6) 3 9
  | _ => groS c
theorem fixn_lt (c j : Nat) : fixn c j < 4294967296 := by
  have h0 : c &&& 2047 < 4294967296 := Nat.lt_trans (low_lt c) (by decide)
  have h1 := fst_lt _ 2 0 h0
  have h2 := fst_lt _ 7 6 h1
  have h3 := fst_lt _ 3 9 h2
  rcases j with _ | _ | _ | _ | j
  · exact h0
  · exact h1
  · exact h2
  · exact h3
  · exact Nat.lt_trans (fix_lt c) (by decide)
theorem gst_lt (c p q : Nat) (hc : c < 4294967296) (hq : q < 32) : gst c p q < 4294967296 := by
  unfold gst; split
  · exact Nat.or_lt_two_pow (n := 32) hc (Nat.pow_lt_pow_right (by decide) hq)
  · exact hc
theorem gron_lt (c j : Nat) : gron c j < 4294967296 := by
  have h0 : c &&& 2047 < 4294967296 := Nat.lt_trans (low_lt c) (by decide)
  have h1 := gst_lt _ 2 0 h0 (by decide)
  have h2 := gst_lt _ 7 6 h1 (by decide)
  have h3 := gst_lt _ 3 9 h2 (by decide)
  rcases j with _ | _ | _ | _ | j
  · exact h0
  · exact h1
  · exact h2
  · exact h3
  · exact Nat.lt_trans (gro_lt c) (by decide)

set_option maxRecDepth 100000 in
set_option maxHeartbeats 4000000 in
theorem fix_any (c : Nat) (hc : c < 4294967296) (w : World) (hN : Nds w) : Calls Tryd.prog 23 #[.int .u32 (c : Nat)] w fun e w' => e = .returned (.int .u32 (fixS c : Nat)) ∧ Below w.heap.size w w' := by
  have c0 := hN.2 0 4 rfl
  have c1 := hN.2 1 1 rfl
  have c2 := hN.2 2 128 rfl
  have c3 := hN.2 3 64 rfl
  have c4 := hN.2 4 8 rfl
  have c5 := hN.2 5 512 rfl
  have c6 := hN.2 6 32 rfl
  have c7 := hN.2 7 16 rfl
  have e0 : bits .and .u32 (c : Int) 2047 = ((fixn c 0 : Nat) : Int) := (u32_bits c 2047 hc (by decide)).1
  have KH := Lib.hid has_any
  go_enter Tryd.func23, Tryd.ntmps23
  go_wp2
  clear c0 c1 c2 c3 c4 c5 c6 c7 e0
  go_loopg [0, 8] 4 (fun gk s0 s8 wx => ∃ j : Nat, j + gk = 4 ∧ s8 = .int .i64 j ∧ s0 = .int .u32 (fixn c j : Nat) ∧ Below w.heap.size w wx)
  case atStart => exact ⟨0, rfl, rfl, rfl, Below.refl _ _⟩
  case round =>
    obtain ⟨j, hjg, rfl, rfl, hB⟩ := hrel
    cases gk with
    | zero =>
      obtain rfl : j = 4 := by omega
      go_wp2
      go_ret
      exact ⟨rfl, hB⟩
    | succ gq =>
      have hX := fixn_lt c j
      obtain ⟨X, eX⟩ : ∃ X, X = fixn c j := ⟨_, rfl⟩
      have HN : Hid (∀ v, v = fixn c (j + 1) → Value.int .u32 ((v : Nat) : Int) = .int .u32 ((fixn c (j + 1) : Nat) : Int)) := fun v e => by rw [e]
      rw [← eX] at hX ⊢
      have hj : j = 0 ∨ j = 1 ∨ j = 2 ∨ j = 3 := by omega
      rcases hj with rfl | rfl | rfl | rfl
      · have eS : fixn c (0 + 1) = fst X 2 0 := by rw [eX]; rfl
        have ES := Lib.hid eS
        clear eX eS
        have xj : ∀ W : World, (Instr.index 57 (.agg #[.int .u32 4, .int .u32 1, .int .u32 128, .int .u32 64, .int .u32 8, .int .u32 512, .int .u32 32, .int .u32 16]) (.int .i64 0)).run Tryd.prog W = .ok (.agg #[.int .u32 4, .int .u32 1]) W := fun W => by kernel_rfl
        have KHj := fun W => KH.out X 1 W hX (by decide)
        have e3 : bits .andNot .u32 (X : Int) 4 = ((andN X 4 : Nat) : Int) := (u32_bits X 4 hX (by decide)).2.2
        by_cases hb : X &&& 1 = 1
        · rw [decide_eq_true hb] at KHj
          have KHh : Hid (∀ W, Calls Tryd.prog 28 #[.int .u32 (X : Nat), .int .u32 1] W fun e w' => e = .returned (.bool true) ∧ w' = W) := KHj
          clear KHj
          go_wp2_with (first
            | (go_at_call 28; refine (KHh.out _).mono ?_; rintro e w2 ⟨rfl, rfl⟩))
          go_roundg gq
          case measure => omega
          case rel => exact ⟨0 + 1, by omega, by first | rfl | rw [wrap64_nat (by omega)] | simp, HN.out _ (by rw [ES.out]; unfold fst; rw [if_pos (show X &&& 2 ^ 0 = 2 ^ 0 from hb)]), hB.alloc hB.size _⟩
        · rw [decide_eq_false hb] at KHj
          have KHh : Hid (∀ W, Calls Tryd.prog 28 #[.int .u32 (X : Nat), .int .u32 1] W fun e w' => e = .returned (.bool false) ∧ w' = W) := KHj
          clear KHj
          go_wp2_with (first
            | (go_at_call 28; refine (KHh.out _).mono ?_; rintro e w2 ⟨rfl, rfl⟩))
          go_roundg gq
          case measure => omega
          case rel => exact ⟨0 + 1, by omega, by first | rfl | rw [wrap64_nat (by omega)] | simp, HN.out _ (by rw [ES.out]; unfold fst; rw [if_neg (show ¬ X &&& 2 ^ 0 = 2 ^ 0 from hb)]), hB.alloc hB.size _⟩
      · have eS : fixn c (1 + 1) = fst X 7 6 := by rw [eX]; rfl
        have ES := Lib.hid eS
        clear eX eS
        have xj : ∀ W : World, (Instr.index 57 (.agg #[.int .u32 4, .int .u32 1, .int .u32 128, .int .u32 64, .int .u32 8, .int .u32 512, .int .u32 32, .int .u32 16]) (.int .i64 1)).run Tryd.prog W = .ok (.agg #[.int .u32 128, .int .u32 64]) W := fun W => by kernel_rfl
        have KHj := fun W => KH.out X 64 W hX (by decide)
        have e3 : bits .andNot .u32 (X : Int) 128 = ((andN X 128 : Nat) : Int) := (u32_bits X 128 hX (by decide)).2.2
        by_cases hb : X &&& 64 = 64
        · rw [decide_eq_true hb] at KHj
          have KHh : Hid (∀ W, Calls Tryd.prog 28 #[.int .u32 (X : Nat), .int .u32 64] W fun e w' => e = .returned (.bool true) ∧ w' = W) := KHj
          clear KHj
          go_wp2_with (first
            | (go_at_call 28; refine (KHh.out _).mono ?_; rintro e w2 ⟨rfl, rfl⟩))
          go_roundg gq
          case measure => omega
          case rel => exact ⟨1 + 1, by omega, by first | rfl | rw [wrap64_nat (by omega)] | simp, HN.out _ (by rw [ES.out]; unfold fst; rw [if_pos (show X &&& 2 ^ 6 = 2 ^ 6 from hb)]), hB.alloc hB.size _⟩
        · rw [decide_eq_false hb] at KHj
          have KHh : Hid (∀ W, Calls Tryd.prog 28 #[.int .u32 (X : Nat), .int .u32 64] W fun e w' => e = .returned (.bool false) ∧ w' = W) := KHj
          clear KHj
          go_wp2_with (first
            | (go_at_call 28; refine (KHh.out _).mono ?_; rintro e w2 ⟨rfl, rfl⟩))
          go_roundg gq
          case measure => omega
          case rel => exact ⟨1 + 1, by omega, by first | rfl | rw [wrap64_nat (by omega)] | simp, HN.out _ (by rw [ES.out]; unfold fst; rw [if_neg (show ¬ X &&& 2 ^ 6 = 2 ^ 6 from hb)]), hB.alloc hB.size _⟩
      · have eS : fixn c (2 + 1) = fst X 3 9 := by rw [eX]; rfl
        have ES := Lib.hid eS
        clear eX eS
        have xj : ∀ W : World, (Instr.index 57 (.agg #[.int .u32 4, .int .u32 1, .int .u32 128, .int .u32 64, .int .u32 8, .int .u32 512, .int .u32 32, .int .u32 16]) (.int .i64 2)).run Tryd.prog W = .ok (.agg #[.int .u32 8, .int .u32 512]) W := fun W => by kernel_rfl
        have KHj := fun W => KH.out X 512 W hX (by decide)
        have e3 : bits .andNot .u32 (X : Int) 8 = ((andN X 8 : Nat) : Int) := (u32_bits X 8 hX (by decide)).2.2
        by_cases hb : X &&& 512 = 512
        · rw [decide_eq_true hb] at KHj
          have KHh : Hid (∀ W, Calls Tryd.prog 28 #[.int .u32 (X : Nat), .int .u32 512] W fun e w' => e = .returned (.bool true) ∧ w' = W) := KHj
          clear KHj
          go_wp2_with (first
            | (go_at_call 28; refine (KHh.out _).mono ?_; rintro e w2 ⟨rfl, rfl⟩))
          go_roundg gq
          case measure => omega
          case rel => exact ⟨2 + 1, by omega, by first | rfl | rw [wrap64_nat (by omega)] | simp, HN.out _ (by rw [ES.out]; unfold fst; rw [if_pos (show X &&& 2 ^ 9 = 2 ^ 9 from hb)]), hB.alloc hB.size _⟩
        · rw [decide_eq_false hb] at KHj
          have KHh : Hid (∀ W, Calls Tryd.prog 28 #[.int .u32 (X : Nat), .int .u32 512] W fun e w' => e = .returned (.bool false) ∧ w' = W) := KHj
          clear KHj
          go_wp2_with (first
            | (go_at_call 28; refine (KHh.out _).mono ?_; rintro e w2 ⟨rfl, rfl⟩))
          go_roundg gq
          case measure => omega
          case rel => exact ⟨2 + 1, by omega, by first | rfl | rw [wrap64_nat (by omega)] | simp, HN.out _ (by rw [ES.out]; unfold fst; rw [if_neg (show ¬ X &&& 2 ^ 9 = 2 ^ 9 from hb)]), hB.alloc hB.size _⟩
      · have eS : fixn c (3 + 1) = fst X 5 4 := by rw [eX]; rfl
        have ES := Lib.hid eS
        clear eX eS
        have xj : ∀ W : World, (Instr.index 57 (.agg #[.int .u32 4, .int .u32 1, .int .u32 128, .int .u32 64, .int .u32 8, .int .u32 512, .int .u32 32, .int .u32 16]) (.int .i64 3)).run Tryd.prog W = .ok (.agg #[.int .u32 32, .int .u32 16]) W := fun W => by kernel_rfl
        have KHj := fun W => KH.out X 16 W hX (by decide)
        have e3 : bits .andNot .u32 (X : Int) 32 = ((andN X 32 : Nat) : Int) := (u32_bits X 32 hX (by decide)).2.2
        by_cases hb : X &&& 16 = 16
        · rw [decide_eq_true hb] at KHj
          have KHh : Hid (∀ W, Calls Tryd.prog 28 #[.int .u32 (X : Nat), .int .u32 16] W fun e w' => e = .returned (.bool true) ∧ w' = W) := KHj
          clear KHj
          go_wp2_with (first
            | (go_at_call 28; refine (KHh.out _).mono ?_; rintro e w2 ⟨rfl, rfl⟩))
          go_roundg gq
          case measure => omega
          case rel => exact ⟨3 + 1, by omega, by first | rfl | rw [wrap64_nat (by omega)] | simp, HN.out _ (by rw [ES.out]; unfold fst; rw [if_pos (show X &&& 2 ^ 4 = 2 ^ 4 from hb)]), hB.alloc hB.size _⟩
        · rw [decide_eq_false hb] at KHj
          have KHh : Hid (∀ W, Calls Tryd.prog 28 #[.int .u32 (X : Nat), .int .u32 16] W fun e w' => e = .returned (.bool false) ∧ w' = W) := KHj
          clear KHj
          go_wp2_with (first
            | (go_at_call 28; refine (KHh.out _).mono ?_; rintro e w2 ⟨rfl, rfl⟩))
          go_roundg gq
          case measure => omega
          case rel => exact ⟨3 + 1, by omega, by first | rfl | rw [wrap64_nat (by omega)] | simp, HN.out _ (by rw [ES.out]; unfold fst; rw [if_neg (show ¬ X &&& 2 ^ 4 = 2 ^ 4 from hb)]), hB.alloc hB.size _⟩

set_option maxRecDepth 100000 in
set_option maxHeartbeats 4000000 in
theorem gro_any (c : Nat) (hc : c < 4294967296) (w : World) (hN : Nds w) : Calls Tryd.prog 25 #[.int .u32 (c : Nat)] w fun e w' => e = .returned (.int .u32 (groS c : Nat)) ∧ Below w.heap.size w w' := by
  have c0 := hN.2 0 4 rfl
  have c1 := hN.2 1 1 rfl
  have c2 := hN.2 2 128 rfl
  have c3 := hN.2 3 64 rfl
  have c4 := hN.2 4 8 rfl
  have c5 := hN.2 5 512 rfl
  have c6 := hN.2 6 32 rfl
  have c7 := hN.2 7 16 rfl
  have e0 : bits .and .u32 (c : Int) 2047 = ((gron c 0 : Nat) : Int) := (u32_bits c 2047 hc (by decide)).1
  have KH := Lib.hid has_any
  go_enter Tryd.func25, Tryd.ntmps25
  go_wp2
  clear c0 c1 c2 c3 c4 c5 c6 c7 e0
  go_loopg [0, 8] 4 (fun gk s0 s8 wx => ∃ j : Nat, j + gk = 4 ∧ s8 = .int .i64 j ∧ s0 = .int .u32 (gron c j : Nat) ∧ Below w.heap.size w wx)
  case atStart => exact ⟨0, rfl, rfl, rfl, Below.refl _ _⟩
  case round =>
    obtain ⟨j, hjg, rfl, rfl, hB⟩ := hrel
    cases gk with
    | zero =>
      obtain rfl : j = 4 := by omega
      go_wp2
      go_ret
      exact ⟨rfl, hB⟩
    | succ gq =>
      have hX := gron_lt c j
      obtain ⟨X, eX⟩ : ∃ X, X = gron c j := ⟨_, rfl⟩
      have HN : Hid (∀ v, v = gron c (j + 1) → Value.int .u32 ((v : Nat) : Int) = .int .u32 ((gron c (j + 1) : Nat) : Int)) := fun v e => by rw [e]
      rw [← eX] at hX ⊢
      have hj : j = 0 ∨ j = 1 ∨ j = 2 ∨ j = 3 := by omega
      rcases hj with rfl | rfl | rfl | rfl
      · have eS : gron c (0 + 1) = gst X 2 0 := by rw [eX]; rfl
        have ES := Lib.hid eS
        clear eX eS
        have xj : ∀ W : World, (Instr.index 57 (.agg #[.int .u32 4, .int .u32 1, .int .u32 128, .int .u32 64, .int .u32 8, .int .u32 512, .int .u32 32, .int .u32 16]) (.int .i64 0)).run Tryd.prog W = .ok (.agg #[.int .u32 4, .int .u32 1]) W := fun W => by kernel_rfl
        have KHj := fun W => KH.out X 4 W hX (by decide)
        have e3 : bits .or .u32 (X : Int) 1 = ((X ||| 1 : Nat) : Int) := (u32_bits X 1 hX (by decide)).2.1
        by_cases hb : X &&& 4 = 4
        · rw [decide_eq_true hb] at KHj
          have KHh : Hid (∀ W, Calls Tryd.prog 28 #[.int .u32 (X : Nat), .int .u32 4] W fun e w' => e = .returned (.bool true) ∧ w' = W) := KHj
          clear KHj
          go_wp2_with (first
            | (go_at_call 28; refine (KHh.out _).mono ?_; rintro e w2 ⟨rfl, rfl⟩))
          go_roundg gq
          case measure => omega
          case rel => exact ⟨0 + 1, by omega, by first | rfl | rw [wrap64_nat (by omega)] | simp, HN.out _ (by rw [ES.out]; unfold gst; rw [if_pos (show X &&& 2 ^ 2 = 2 ^ 2 from hb)]), hB.alloc hB.size _⟩
        · rw [decide_eq_false hb] at KHj
          have KHh : Hid (∀ W, Calls Tryd.prog 28 #[.int .u32 (X : Nat), .int .u32 4] W fun e w' => e = .returned (.bool false) ∧ w' = W) := KHj
          clear KHj
          go_wp2_with (first
            | (go_at_call 28; refine (KHh.out _).mono ?_; rintro e w2 ⟨rfl, rfl⟩))
          go_roundg gq
          case measure => omega
          case rel => exact ⟨0 + 1, by omega, by first | rfl | rw [wrap64_nat (by omega)] | simp, HN.out _ (by rw [ES.out]; unfold gst; rw [if_neg (show ¬ X &&& 2 ^ 2 = 2 ^ 2 from hb)]), hB.alloc hB.size _⟩
      · have eS : gron c (1 + 1) = gst X 7 6 := by rw [eX]; rfl
        have ES := Lib.hid eS
        clear eX eS
        have xj : ∀ W : World, (Instr.index 57 (.agg #[.int .u32 4, .int .u32 1, .int .u32 128, .int .u32 64, .int .u32 8, .int .u32 512, .int .u32 32, .int .u32 16]) (.int .i64 1)).run Tryd.prog W = .ok (.agg #[.int .u32 128, .int .u32 64]) W := fun W => by kernel_rfl
        have KHj := fun W => KH.out X 128 W hX (by decide)
        have e3 : bits .or .u32 (X : Int) 64 = ((X ||| 64 : Nat) : Int) := (u32_bits X 64 hX (by decide)).2.1
        by_cases hb : X &&& 128 = 128
        · rw [decide_eq_true hb] at KHj
          have KHh : Hid (∀ W, Calls Tryd.prog 28 #[.int .u32 (X : Nat), .int .u32 128] W fun e w' => e = .returned (.bool true) ∧ w' = W) := KHj
          clear KHj
          go_wp2_with (first
            | (go_at_call 28; refine (KHh.out _).mono ?_; rintro e w2 ⟨rfl, rfl⟩))
          go_roundg gq
          case measure => omega
          case rel => exact ⟨1 + 1, by omega, by first | rfl | rw [wrap64_nat (by omega)] | simp, HN.out _ (by rw [ES.out]; unfold gst; rw [if_pos (show X &&& 2 ^ 7 = 2 ^ 7 from hb)]), hB.alloc hB.size _⟩
        · rw [decide_eq_false hb] at KHj
          have KHh : Hid (∀ W, Calls Tryd.prog 28 #[.int .u32 (X : Nat), .int .u32 128] W fun e w' => e = .returned (.bool false) ∧ w' = W) := KHj
          clear KHj
          go_wp2_with (first
            | (go_at_call 28; refine (KHh.out _).mono ?_; rintro e w2 ⟨rfl, rfl⟩))
          go_roundg gq
          case measure => omega
          case rel => exact ⟨1 + 1, by omega, by first | rfl | rw [wrap64_nat (by omega)] | simp, HN.out _ (by rw [ES.out]; unfold gst; rw [if_neg (show ¬ X &&& 2 ^ 7 = 2 ^ 7 from hb)]), hB.alloc hB.size _⟩
      · have eS : gron c (2 + 1) = gst X 3 9 := by rw [eX]; rfl
        have ES := Lib.hid eS
        clear eX eS
        have xj : ∀ W : World, (Instr.index 57 (.agg #[.int .u32 4, .int .u32 1, .int .u32 128, .int .u32 64, .int .u32 8, .int .u32 512, .int .u32 32, .int .u32 16]) (.int .i64 2)).run Tryd.prog W = .ok (.agg #[.int .u32 8, .int .u32 512]) W := fun W => by kernel_rfl
        have KHj := fun W => KH.out X 8 W hX (by decide)
        have e3 : bits .or .u32 (X : Int) 512 = ((X ||| 512 : Nat) : Int) := (u32_bits X 512 hX (by decide)).2.1
        by_cases hb : X &&& 8 = 8
        · rw [decide_eq_true hb] at KHj
          have KHh : Hid (∀ W, Calls Tryd.prog 28 #[.int .u32 (X : Nat), .int .u32 8] W fun e w' => e = .returned (.bool true) ∧ w' = W) := KHj
          clear KHj
          go_wp2_with (first
            | (go_at_call 28; refine (KHh.out _).mono ?_; rintro e w2 ⟨rfl, rfl⟩))
          go_roundg gq
          case measure => omega
          case rel => exact ⟨2 + 1, by omega, by first | rfl | rw [wrap64_nat (by omega)] | simp, HN.out _ (by rw [ES.out]; unfold gst; rw [if_pos (show X &&& 2 ^ 3 = 2 ^ 3 from hb)]), hB.alloc hB.size _⟩
        · rw [decide_eq_false hb] at KHj
          have KHh : Hid (∀ W, Calls Tryd.prog 28 #[.int .u32 (X : Nat), .int .u32 8] W fun e w' => e = .returned (.bool false) ∧ w' = W) := KHj
          clear KHj
          go_wp2_with (first
            | (go_at_call 28; refine (KHh.out _).mono ?_; rintro e w2 ⟨rfl, rfl⟩))
          go_roundg gq
          case measure => omega
          case rel => exact ⟨2 + 1, by omega, by first | rfl | rw [wrap64_nat (by omega)] | simp, HN.out _ (by rw [ES.out]; unfold gst; rw [if_neg (show ¬ X &&& 2 ^ 3 = 2 ^ 3 from hb)]), hB.alloc hB.size _⟩
      · have eS : gron c (3 + 1) = gst X 5 4 := by rw [eX]; rfl
        have ES := Lib.hid eS
        clear eX eS
        have xj : ∀ W : World, (Instr.index 57 (.agg #[.int .u32 4, .int .u32 1, .int .u32 128, .int .u32 64, .int .u32 8, .int .u32 512, .int .u32 32, .int .u32 16]) (.int .i64 3)).run Tryd.prog W = .ok (.agg #[.int .u32 32, .int .u32 16]) W := fun W => by kernel_rfl
        have KHj := fun W => KH.out X 32 W hX (by decide)
        have e3 : bits .or .u32 (X : Int) 16 = ((X ||| 16 : Nat) : Int) := (u32_bits X 16 hX (by decide)).2.1
        by_cases hb : X &&& 32 = 32
        · rw [decide_eq_true hb] at KHj
          have KHh : Hid (∀ W, Calls Tryd.prog 28 #[.int .u32 (X : Nat), .int .u32 32] W fun e w' => e = .returned (.bool true) ∧ w' = W) := KHj
          clear KHj
          go_wp2_with (first
            | (go_at_call 28; refine (KHh.out _).mono ?_; rintro e w2 ⟨rfl, rfl⟩))
          go_roundg gq
          case measure => omega
          case rel => exact ⟨3 + 1, by omega, by first | rfl | rw [wrap64_nat (by omega)] | simp, HN.out _ (by rw [ES.out]; unfold gst; rw [if_pos (show X &&& 2 ^ 5 = 2 ^ 5 from hb)]), hB.alloc hB.size _⟩
        · rw [decide_eq_false hb] at KHj
          have KHh : Hid (∀ W, Calls Tryd.prog 28 #[.int .u32 (X : Nat), .int .u32 32] W fun e w' => e = .returned (.bool false) ∧ w' = W) := KHj
          clear KHj
          go_wp2_with (first
            | (go_at_call 28; refine (KHh.out _).mono ?_; rintro e w2 ⟨rfl, rfl⟩))
          go_roundg gq
          case measure => omega
          case rel => exact ⟨3 + 1, by omega, by first | rfl | rw [wrap64_nat (by omega)] | simp, HN.out _ (by rw [ES.out]; unfold gst; rw [if_neg (show ¬ X &&& 2 ^ 5 = 2 ^ 5 from hb)]), hB.alloc hB.size _⟩
end Go.Proofs.YtanjkljcoccblaaDoor
