/- The words of the capabilities, has in the package and in the document, and the greatest proper set within one, in the document; no condition but those that each theorem names. -/
import Derived.Test.YtcbplamomhimiaaDoorCb
import Derived.Test.YtcbplamomhimiaaDoorCp
namespace Go.Proofs.YtcbplamomhimiaaDoor
open Go.RowKit Go.Maps

def wds : List Bs := [[102, 108, 117, 115, 104], [99, 108, 111, 115, 101], [98, 97, 116, 99, 104], [97, 99, 107], [112, 105, 110, 103], [114, 101, 115, 101, 116], [115, 97, 118, 101], [108, 111, 97, 100], [110, 97, 109, 101], [117, 110, 116, 105, 108], [111, 112, 101, 110]]
def Wds (W : World) : Prop := 0 < W.heap.size ∧ ∀ (j : Nat) x, wds[j]? = some x → W.cell? ⟨0, j, none⟩ = some (.string (bs x))
theorem Wds.from {n : Nat} {W W' : World} (h : Wds W) (hn : W.heap.size ≤ n) (hB : Below n W W') : Wds W' :=
  ⟨Nat.lt_of_lt_of_le h.1 hB.size, fun j x hj => (hB.cell (p := ⟨0, j, none⟩) (by show 0 < n; have := h.1; omega)).trans (h.2 j x hj)⟩
theorem Wds.below {W W' : World} (h : Wds W) (hB : Below W.heap.size W W') : Wds W' := h.from (Nat.le_refl _) hB
theorem cell_at {W : World} {b : Nat} {cur : Array Value} {e : TypeId} {f : Nat × Nat} (h : W.heap[b]? = some (.cells cur e f)) (j : Nat) : W.cell? ⟨b, j, none⟩ = cur[j]? := by simp [World.cell?, h]
def wd (k : Nat) : Bs := wds.getD k []

set_option maxRecDepth 100000 in
set_option maxHeartbeats 2000000 in
theorem rhas_int (c k : Int) (k0 : 0 ≤ k) (k1 : k < 11) (w : World) : Calls Tryd.prog 37 #[.int .u32 c, .int .i64 k] w fun e w' => e = .returned (.bool (bits .and .u32 (c / 2 ^ k.toNat) 1 == 1)) ∧ w' = w := by
  go_enter Tryd.func37, Tryd.ntmps37
  go_wp2
  all_goals first | omega | (go_ret; exact ⟨rfl, rfl⟩)
theorem rhas_any (c k : Nat) (hc : c < 4294967296) (hk : k < 11) (w : World) : Calls Tryd.prog 37 #[.int .u32 (c : Nat), .int .i64 (k : Nat)] w fun e w' => e = .returned (.bool (c.testBit k)) ∧ w' = w := by
  have e1 : (((c : Nat) : Int) / 2 ^ k) = ((c / 2 ^ k : Nat) : Int) := by rw [Int.natCast_ediv]; simp
  have e2 : bits .and .u32 ((c / 2 ^ k : Nat) : Int) 1 = ((c / 2 ^ k % 2 : Nat) : Int) := by
    have := (u32_bits (c / 2 ^ k) 1 (Nat.lt_of_le_of_lt (Nat.div_le_self _ _) hc) (by decide)).1
    rw [Nat.and_one_is_mod] at this; exact this
  have e3 : (((c / 2 ^ k % 2 : Nat) : Int) == 1) = c.testBit k := by
    rw [Nat.testBit_eq_decide_div_mod_eq]
    by_cases h : c / 2 ^ k % 2 = 1
    · rw [decide_eq_true h, h]; rfl
    · rw [decide_eq_false h]; simp; omega
  have := rhas_int c k (by omega) (by omega) w
  rw [Int.toNat_natCast, e1, e2, e3] at this
  exact this

set_option maxRecDepth 100000 in
set_option maxHeartbeats 2000000 in
theorem rvalid_any (c : Nat) (w : World) : Calls Tryd.prog 41 #[.int .u32 (c : Nat)] w fun e w' => e = .returned (.bool (decide (c ≤ 2047))) ∧ w' = w := by
  have e1 : decide (((c : Nat) : Int) ≤ 2047) = decide (c ≤ 2047) := by
    by_cases h : c ≤ 2047
    · rw [decide_eq_true h, decide_eq_true (by omega)]
    · rw [decide_eq_false h, decide_eq_false (by omega)]
  go_enter Tryd.func41, Tryd.ntmps41
  go_wp2
  go_ret
  refine ⟨?_, rfl⟩
  first | rfl | (show Ending.returned (.bool _) = _; rw [e1])
/-- The word of a number. -/
def wrd (k : Int) : Bs := if 0 ≤ k ∧ k < 11 then wd k.toNat else []
set_option maxRecDepth 100000 in
set_option maxHeartbeats 2000000 in
theorem word_any (k : Int) (w : World) (hN : Wds w) : Calls Tryd.prog 50 #[.int .i64 k] w fun e w' => e = .returned (.string (bs (wrd k))) ∧ w' = w := by
  by_cases h : 0 ≤ k ∧ k < 11
  · obtain ⟨j, rfl⟩ : ∃ j : Nat, k = j := ⟨k.toNat, by omega⟩
    have hj : j < 11 := by omega
    have x0 := hN.2 j (wd j) (by rw [List.getElem?_eq_getElem (show j < wds.length from hj)]; simp [wd, List.getD, List.getElem?_eq_getElem (show j < wds.length from hj)])
    have e0 : wrd (j : Int) = wd j := by unfold wrd; rw [if_pos h, Int.toNat_natCast]
    have j0 : ¬ ((j : Nat) : Int) < 0 := by omega
    have j1 : ((j : Nat) : Int) < 11 := by omega
    have j2 : ¬ (11 : Int) ≤ ((j : Nat) : Int) := by omega
    rw [e0]
    clear e0 h hN
    go_enter Tryd.func50, Tryd.ntmps50
    go_wp2
    go_ret
    exact ⟨rfl, rfl⟩
  · have e0 : wrd k = [] := by unfold wrd; rw [if_neg h]
    rw [e0]
    go_enter Tryd.func50, Tryd.ntmps50
    go_wp2
    all_goals first | (exfalso; omega) | (go_ret; exact ⟨rfl, rfl⟩)
theorem prop_b (b0 b2 b3 b4 b5 b6 b7 b9 : Bool) (x : Nat) (h0 : x.testBit 0 = b0) (h2 : x.testBit 2 = b2) (h3 : x.testBit 3 = b3) (h4 : x.testBit 4 = b4) (h5 : x.testBit 5 = b5) (h6 : x.testBit 6 = b6) (h7 : x.testBit 7 = b7) (h9 : x.testBit 9 = b9) :
    prop x = ((!b2 || b0) && (!b7 || b6) && (!b3 || b9) && (!b5 || b4)) := by unfold prop; rw [h0, h2, h3, h4, h5, h6, h7, h9]
set_option maxRecDepth 100000 in
set_option maxHeartbeats 4000000 in
theorem proper_any (x : Nat) (hx : x < 4294967296) (w : World) : Calls Tryd.prog 56 #[.int .u32 (x : Nat)] w fun e w' => e = .returned (.bool (prop x)) ∧ w' = w := by
  obtain ⟨tb, htb⟩ : ∃ tb : Int → Bool, tb = fun k => x.testBit k.toNat := ⟨_, rfl⟩
  have KH : Hid (∀ (k : Int) (W : World), 0 ≤ k → k < 11 → Calls Tryd.prog 37 #[.int .u32 (x : Nat), .int .i64 k] W fun e w' => e = .returned (.bool (tb k)) ∧ w' = W) := fun k W h0 h1 => by
    obtain ⟨j, rfl⟩ : ∃ j : Nat, k = j := ⟨k.toNat, by omega⟩
    have := rhas_any x j hx (by omega) W
    rw [htb]; exact this
  have hp : prop x = ((!tb 2 || tb 0) && (!tb 7 || tb 6) && (!tb 3 || tb 9) && (!tb 5 || tb 4)) := by rw [htb]; rfl
  have HP := Lib.hid hp
  clear hp htb
  go_enter Tryd.func56, Tryd.ntmps56
  go_wp2_with (first
    | (go_at_call 37; refine (KH.out _ _ (by decide) (by decide)).mono ?_; rintro e w2 ⟨rfl, rfl⟩))
  all_goals (go_ret; refine ⟨?_, rfl⟩; rw [HP.out])
  all_goals (refine congrArg Ending.returned ?_; show Value.bool _ = Value.bool _; simp_all)
set_option maxRecDepth 100000 in
set_option maxHeartbeats 4000000 in
theorem rfix_any (c : Nat) (hc : c < 4294967296) (w : World) : Calls Tryd.prog 51 #[.int .u32 (c : Nat)] w fun e w' => e = .returned (.int .u32 (fixS c : Nat)) ∧ w' = w := by
  have KP : Hid (∀ (x : Nat) (W : World), x < 2048 → Calls Tryd.prog 56 #[.int .u32 (x : Nat)] W fun e w' => e = .returned (.bool (prop x)) ∧ w' = W) := fun x W h => proper_any x (by omega) W
  go_enter Tryd.func51, Tryd.ntmps51
  go_wp2
  go_loopg [3, 4] 2048 (fun gk s3 s4 wx => ∃ j : Nat, j + gk = 2048 ∧ s4 = .int .u32 j ∧ s3 = .int .u32 (rfix c j : Nat) ∧ wx = w)
  case atStart => exact ⟨0, rfl, rfl, rfl, rfl⟩
  case round =>
    obtain ⟨j, hjg, rfl, rfl, rfl⟩ := hrel
    cases gk with
    | zero =>
      obtain rfl : j = 2048 := by omega
      go_wp2
      go_ret
      exact ⟨by rw [← rfix_eq]; rfl, rfl⟩
    | succ gq =>
      have hj : j < 2048 := by omega
      have hj' : ((j : Nat) : Int) ≤ 2047 := by omega
      have KPj := Lib.hid (KP.out j wr hj)
      have b1 := (u32_bits j c (by omega) hc).2.2
      have hX := rfix_lt c j (by omega)
      obtain ⟨X, eX⟩ : ∃ X, X = rfix c j := ⟨_, rfl⟩
      rw [← eX] at hX ⊢
      have b2 := (u32_bits X j (by omega) (by omega)).2.1
      have EX := Lib.hid eX
      clear eX
      have HS : Hid (rfix c (j + 1) = if andN j c = 0 ∧ prop j = true then X ||| j else X) := by show rfix c (j + 1) = _; rw [EX.out, rfix]
      by_cases h0 : andN j c = 0
      · have t1 : ((andN j c : Nat) : Int) = 0 := by rw [h0]; rfl
        cases hp : prop j with
        | true =>
          rw [hp] at KPj
          have HE : Hid (rfix c (j + 1) = X ||| j) := by show rfix c (j + 1) = _; rw [HS.out, if_pos ⟨h0, hp⟩]
          clear h0 hp HS
          go_wp2_with (first
            | (go_at_call 56; refine KPj.out.mono ?_; rintro e w2 ⟨rfl, rfl⟩))
          go_roundg gq
          case measure => omega
          case rel =>
            refine ⟨j + 1, by omega, ?_, by rw [HE.out], rfl⟩
            first | rfl | (congr 1; omega) | (congr 1; show (((j : Nat) : Int) + 1) % 4294967296 = _; omega)
        | false =>
          rw [hp] at KPj
          have HE : Hid (rfix c (j + 1) = X) := by show rfix c (j + 1) = _; rw [HS.out, if_neg (by rw [hp]; simp)]
          clear h0 hp HS
          go_wp2_with (first
            | (go_at_call 56; refine KPj.out.mono ?_; rintro e w2 ⟨rfl, rfl⟩))
          go_roundg gq
          case measure => omega
          case rel =>
            refine ⟨j + 1, by omega, ?_, by rw [HE.out], rfl⟩
            first | rfl | (congr 1; omega) | (congr 1; show (((j : Nat) : Int) + 1) % 4294967296 = _; omega)
      · have t1 : (((andN j c : Nat) : Int) == 0) = false := by simp; omega
        have HE : Hid (rfix c (j + 1) = X) := by show rfix c (j + 1) = _; rw [HS.out, if_neg (fun h => h0 h.1)]
        clear HS
        go_wp2
        go_roundg gq
        case measure => omega
        case rel =>
          refine ⟨j + 1, by omega, ?_, by rw [HE.out], rfl⟩
          first | rfl | (congr 1; omega) | (congr 1; show (((j : Nat) : Int) + 1) % 4294967296 = _; omega)

/-- Has a set a capability, the number's own range included? -/
def hs (c : Nat) (k : Int) : Bool := decide (0 ≤ k ∧ k < 11) && c.testBit k.toNat
theorem hs_nat (c k : Nat) (h : k < 11) : hs c k = c.testBit k := by
  unfold hs; rw [decide_eq_true (show (0 : Int) ≤ (k : Int) ∧ (k : Int) < 11 by omega), Int.toNat_natCast]; rfl
theorem hs_out (c : Nat) (k : Int) (h : ¬ (0 ≤ k ∧ k < 11)) : hs c k = false := by unfold hs; rw [decide_eq_false h]; rfl
set_option maxRecDepth 100000 in
set_option maxHeartbeats 2000000 in
theorem rhas_out (c k : Int) (h : ¬ (0 ≤ k ∧ k < 11)) (w : World) : Calls Tryd.prog 37 #[.int .u32 c, .int .i64 k] w fun e w' => e = .returned (.bool false) ∧ w' = w := by
  by_cases h0 : 0 ≤ k
  · have h1 : ¬ k < 11 := fun h2 => h ⟨h0, h2⟩
    clear h
    go_enter Tryd.func37, Tryd.ntmps37
    go_wp2
    go_ret; exact ⟨rfl, rfl⟩
  · clear h
    go_enter Tryd.func37, Tryd.ntmps37
    go_wp2
    go_ret; exact ⟨rfl, rfl⟩
theorem rhas_all (c : Nat) (k : Int) (hc : c < 4294967296) (w : World) : Calls Tryd.prog 37 #[.int .u32 (c : Nat), .int .i64 k] w fun e w' => e = .returned (.bool (hs c k)) ∧ w' = w := by
  by_cases h : 0 ≤ k ∧ k < 11
  · obtain ⟨j, rfl⟩ : ∃ j : Nat, k = j := ⟨k.toNat, by omega⟩
    rw [hs_nat c j (by omega)]; exact rhas_any c j hc (by omega) w
  · rw [hs_out c k h]; exact rhas_out c k h w
theorem wrd_ne (k : Int) (h : 0 ≤ k ∧ k < 11) : ((bs (wrd k)).toList == ([] : Bs)) = false := by
  obtain ⟨j, rfl⟩ : ∃ j : Nat, k = j := ⟨k.toNat, by omega⟩
  have hj : j < 11 := by omega
  rw [show (bs (wrd (j : Int))).toList = wrd (j : Int) from tl_bs _, show wrd (j : Int) = wd j by unfold wrd; rw [if_pos h, Int.toNat_natCast]]
  have : j = 0 ∨ j = 1 ∨ j = 2 ∨ j = 3 ∨ j = 4 ∨ j = 5 ∨ j = 6 ∨ j = 7 ∨ j = 8 ∨ j = 9 ∨ j = 10 := by omega
  rcases this with rfl | rfl | rfl | rfl | rfl | rfl | rfl | rfl | rfl | rfl | rfl <;> decide
end Go.Proofs.YtcbplamomhimiaaDoor
