/- The document's own proper, Fix and Grow; no condition. -/
import Derived.Test.YtanjkljcoccblaaDoorCv
namespace Go.Proofs.YtanjkljcoccblaaDoor
open Go.RowKit Go.Maps

theorem prop_b (b0 b2 b3 b4 b5 b6 b7 b9 : Bool) (x : Nat) (h0 : x.testBit 0 = b0) (h2 : x.testBit 2 = b2) (h3 : x.testBit 3 = b3) (h4 : x.testBit 4 = b4) (h5 : x.testBit 5 = b5) (h6 : x.testBit 6 = b6) (h7 : x.testBit 7 = b7) (h9 : x.testBit 9 = b9) :
    prop x = ((!b2 || b0) && (!b7 || b6) && (!b3 || b9) && (!b5 || b4)) := by unfold prop; rw [h0, h2, h3, h4, h5, h6, h7, h9]
set_option maxRecDepth 100000 in
set_option maxHeartbeats 4000000 in
theorem proper_any (x : Nat) (hx : x < 4294967296) (w : World) : Calls Tryd.prog 38 #[.int .u32 (x : Nat)] w fun e w' => e = .returned (.bool (prop x)) ∧ w' = w := by
  obtain ⟨tb, htb⟩ : ∃ tb : Int → Bool, tb = fun k => x.testBit k.toNat := ⟨_, rfl⟩
  have KH : Hid (∀ (k : Int) (W : World), 0 ≤ k → k < 11 → Calls Tryd.prog 31 #[.int .u32 (x : Nat), .int .i64 k] W fun e w' => e = .returned (.bool (tb k)) ∧ w' = W) := fun k W h0 h1 => by
    obtain ⟨j, rfl⟩ : ∃ j : Nat, k = j := ⟨k.toNat, by omega⟩
    have := rhas_any x j hx (by omega) W
    rw [htb]; exact this
  have hp : prop x = ((!tb 2 || tb 0) && (!tb 7 || tb 6) && (!tb 3 || tb 9) && (!tb 5 || tb 4)) := by rw [htb]; rfl
  have HP := Lib.hid hp
  clear hp htb
  go_enter Tryd.func38, Tryd.ntmps38
  go_wp2_with (first
    | (go_at_call 31; refine (KH.out _ _ (by decide) (by decide)).mono ?_; rintro e w2 ⟨rfl, rfl⟩))
  all_goals (go_ret; refine ⟨?_, rfl⟩; rw [HP.out])
  all_goals (refine congrArg Ending.returned ?_; show Value.bool _ = Value.bool _; simp_all)
set_option maxRecDepth 100000 in
set_option maxHeartbeats 4000000 in
theorem rfix_any (c : Nat) (hc : c < 4294967296) (w : World) : Calls Tryd.prog 24 #[.int .u32 (c : Nat)] w fun e w' => e = .returned (.int .u32 (fixS c : Nat)) ∧ w' = w := by
  have KP : Hid (∀ (x : Nat) (W : World), x < 2048 → Calls Tryd.prog 38 #[.int .u32 (x : Nat)] W fun e w' => e = .returned (.bool (prop x)) ∧ w' = W) := fun x W h => proper_any x (by omega) W
  go_enter Tryd.func24, Tryd.ntmps24
  go_wp2
  go_loopg [3, 4] 2048 (fun gk s3 s4 wx => ∃ j : Nat, j + gk = 2048 ∧ s4 = .int .u32 j ∧ s3 = .int .u32 (rfix c j : Nat) ∧ wx = w)
  case atStart => exact ⟨0, rfl, rfl, rfl, rfl⟩
  case round =>
    obtain ⟨j, hjg, rfl, rfl, rfl⟩ := hrel
    cases gk with
    | zero =>
      obtain rfl : j = 2048 := by omega
      go_wp2
      go_ret
      exact ⟨by rw [← rfix_eq]; rfl, rfl⟩
    | succ gq =>
      have hj : j < 2048 := by omega
      have hj' : ((j : Nat) : Int) ≤ 2047 := by omega
      have KPj := Lib.hid (KP.out j wr hj)
      have b1 := (u32_bits j c (by omega) hc).2.2
      have hX := rfix_lt c j (by omega)
      obtain ⟨X, eX⟩ : ∃ X, X = rfix c j := ⟨_, rfl⟩
      rw [← eX] at hX ⊢
      have b2 := (u32_bits X j (by omega) (by omega)).2.1
      have EX := Lib.hid eX
      clear eX
      have HS : Hid (rfix c (j + 1) = if andN j c = 0 ∧ prop j = true then X ||| j else X) := by show rfix c (j + 1) = _; rw [EX.out, rfix]
      by_cases h0 : andN j c = 0
      · have t1 : ((andN j c : Nat) : Int) = 0 := by rw [h0]; rfl
        cases hp : prop j with
        | true =>
          rw [hp] at KPj
          have HE : Hid (rfix c (j + 1) = X ||| j) := by show rfix c (j + 1) = _; rw [HS.out, if_pos ⟨h0, hp⟩]
          clear h0 hp HS
          go_wp2_with (first
            | (go_at_call 38; refine KPj.out.mono ?_; rintro e w2 ⟨rfl, rfl⟩))
          go_roundg gq
          case measure => omega
          case rel =>
            refine ⟨j + 1, by omega, ?_, by rw [HE.out], rfl⟩
            first | rfl | (congr 1; omega) | (congr 1; show (((j : Nat) : Int) + 1) % 4294967296 = _; omega)
        | false =>
          rw [hp] at KPj
          have HE : Hid (rfix c (j + 1) = X) := by show rfix c (j + 1) = _; rw [HS.out, if_neg (by rw [hp]; simp)]
          clear h0 hp HS
          go_wp2_with (first
            | (go_at_call 38; refine KPj.out.mono ?_; rintro e w2 ⟨rfl, rfl⟩))
          go_roundg gq
          case measure => omega
          case rel =>
            refine ⟨j + 1, by omega, ?_, by rw [HE.out], rfl⟩
            first | rfl | (congr 1; omega) | (congr 1; show (((j : Nat) : Int) + 1) % 4294967296 = _; omega)
      · have t1 : (((andN j c : Nat) : Int) == 0) = false := by simp; omega
        have HE : Hid (rfix c (j + 1) = X) := by show rfix c (j + 1) = _; rw [HS.out, if_neg (fun h => h0 h.1)]
        clear HS
        go_wp2
        go_roundg gq
        case measure => omega
        case rel =>
          refine ⟨j + 1, by omega, ?_, by rw [HE.out], rfl⟩
          first | rfl | (congr 1; omega) | (congr 1; show (((j : Nat) : Int) + 1) % 4294967296 = _; omega)
set_option maxRecDepth 100000 in
set_option maxHeartbeats 4000000 in
theorem rgro_any (c : Nat) (hc : c < 4294967296) (w : World) : Calls Tryd.prog 26 #[.int .u32 (c : Nat)] w fun e w' => e = .returned (.int .u32 (groS c : Nat)) ∧ w' = w := by
  have KP : Hid (∀ (x : Nat) (W : World), x < 2048 → Calls Tryd.prog 38 #[.int .u32 (x : Nat)] W fun e w' => e = .returned (.bool (prop x)) ∧ w' = W) := fun x W h => proper_any x (by omega) W
  go_enter Tryd.func26, Tryd.ntmps26
  go_wp2
  go_loopg [3, 4] 2048 (fun gk s3 s4 wx => ∃ j : Nat, j + gk = 2048 ∧ s4 = .int .u32 j ∧ s3 = .int .u32 (rgro c j : Nat) ∧ wx = w)
  case atStart => exact ⟨0, rfl, rfl, rfl, rfl⟩
  case round =>
    obtain ⟨j, hjg, rfl, rfl, rfl⟩ := hrel
    cases gk with
    | zero =>
      obtain rfl : j = 2048 := by omega
      go_wp2
      go_ret
      exact ⟨by rw [← rgro_eq]; rfl, rfl⟩
    | succ gq =>
      have hj : j < 2048 := by omega
      have hj' : ((j : Nat) : Int) ≤ 2047 := by omega
      have KPj := Lib.hid (KP.out j wr hj)
      have b0 : bits .and .u32 (c : Int) 2047 = ((c &&& 2047 : Nat) : Int) := (u32_bits c 2047 hc (by decide)).1
      have hlw := low_lt c
      have b1 := (u32_bits (c &&& 2047) j (by omega) (by omega)).2.2
      have hX := rgro_lt c j
      obtain ⟨X, eX⟩ : ∃ X, X = rgro c j := ⟨_, rfl⟩
      rw [← eX] at hX ⊢
      have b2 := (u32_bits X j (by omega) (by omega)).1
      have EX := Lib.hid eX
      clear eX
      have HS : Hid (rgro c (j + 1) = if andN (c &&& 2047) j = 0 ∧ prop j = true then X &&& j else X) := by show rgro c (j + 1) = _; rw [EX.out, rgro]
      by_cases h0 : andN (c &&& 2047) j = 0
      · have t1 : ((andN (c &&& 2047) j : Nat) : Int) = 0 := by rw [h0]; rfl
        cases hp : prop j with
        | true =>
          rw [hp] at KPj
          have HE : Hid (rgro c (j + 1) = X &&& j) := by show rgro c (j + 1) = _; rw [HS.out, if_pos ⟨h0, hp⟩]
          clear h0 hp HS
          go_wp2_with (first
            | (go_at_call 38; refine KPj.out.mono ?_; rintro e w2 ⟨rfl, rfl⟩))
          go_roundg gq
          case measure => omega
          case rel =>
            refine ⟨j + 1, by omega, ?_, by rw [HE.out], rfl⟩
            first | rfl | (congr 1; omega) | (congr 1; show (((j : Nat) : Int) + 1) % 4294967296 = _; omega)
        | false =>
          rw [hp] at KPj
          have HE : Hid (rgro c (j + 1) = X) := by show rgro c (j + 1) = _; rw [HS.out, if_neg (by rw [hp]; simp)]
          clear h0 hp HS
          go_wp2_with (first
            | (go_at_call 38; refine KPj.out.mono ?_; rintro e w2 ⟨rfl, rfl⟩))
          go_roundg gq
          case measure => omega
          case rel =>
            refine ⟨j + 1, by omega, ?_, by rw [HE.out], rfl⟩
            first | rfl | (congr 1; omega) | (congr 1; show (((j : Nat) : Int) + 1) % 4294967296 = _; omega)
      · have t1 : (((andN (c &&& 2047) j : Nat) : Int) == 0) = false := by simp; omega
        have HE : Hid (rgro c (j + 1) = X) := by show rgro c (j + 1) = _; rw [HS.out, if_neg (fun h => h0 h.1)]
        clear HS
        go_wp2
        go_roundg gq
        case measure => omega
        case rel =>
          refine ⟨j + 1, by omega, ?_, by rw [HE.out], rfl⟩
          first | rfl | (congr 1; omega) | (congr 1; show (((j : Nat) : Int) + 1) % 4294967296 = _; omega)
end Go.Proofs.YtanjkljcoccblaaDoor
