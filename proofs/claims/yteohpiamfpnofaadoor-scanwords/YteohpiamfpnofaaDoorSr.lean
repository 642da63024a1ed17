/- Kind and Text of the document's own answer; no condition but those that each theorem names. -/
import Derived.Test.YteohpiamfpnofaaDoorSg
namespace Go.Proofs.YteohpiamfpnofaaDoor
open Go.RowKit

/-- Texts of kinds in a row, from a kind on. -/
def KRow (w : World) (B f : Nat) : Prop := ∀ j, j < 11 → w.cell? ⟨B, j, none⟩ = some (.string (bs (sp (f + j))))
theorem KRow.below {n : Nat} {A W : World} {B f : Nat} (h : KRow A B f) (hB : Below n A W) (hn : B < n) : KRow W B f := fun j hj => (hB.cell (p := ⟨B, j, none⟩) hn).trans (h j hj)

set_option maxRecDepth 100000 in
set_option maxHeartbeats 2000000 in
theorem words_any (w : World) : Calls Tryd.prog 42 #[] w fun e w' => ∃ B, e = .returned (.slice (some ⟨B, 0, none⟩) 11 11) ∧ B < w'.heap.size ∧ KRow w' B 4 ∧ Below w.heap.size w w' := by
  go_enter Tryd.func42, Tryd.ntmps42
  go_wp2
  go_ret
  refine ⟨w.heap.size, rfl, by simp, fun j hj => ?_, below1 _ _⟩
  rw [cell_new]
  rcases (by omega : j = 0 ∨ j = 1 ∨ j = 2 ∨ j = 3 ∨ j = 4 ∨ j = 5 ∨ j = 6 ∨ j = 7 ∨ j = 8 ∨ j = 9 ∨ j = 10) with rfl | rfl | rfl | rfl | rfl | rfl | rfl | rfl | rfl | rfl | rfl <;> rfl

set_option maxRecDepth 100000 in
set_option maxHeartbeats 2000000 in
theorem marks_any (w : World) : Calls Tryd.prog 43 #[] w fun e w' => ∃ B, e = .returned (.slice (some ⟨B, 0, none⟩) 11 11) ∧ B < w'.heap.size ∧ KRow w' B 15 ∧ Below w.heap.size w w' := by
  go_enter Tryd.func43, Tryd.ntmps43
  go_wp2
  go_ret
  refine ⟨w.heap.size, rfl, by simp, fun j hj => ?_, below1 _ _⟩
  rw [cell_new]
  rcases (by omega : j = 0 ∨ j = 1 ∨ j = 2 ∨ j = 3 ∨ j = 4 ∨ j = 5 ∨ j = 6 ∨ j = 7 ∨ j = 8 ∨ j = 9 ∨ j = 10) with rfl | rfl | rfl | rfl | rfl | rfl | rfl | rfl | rfl | rfl | rfl <;> rfl

set_option maxRecDepth 100000 in
set_option maxHeartbeats 2000000 in
theorem rkind_any (s : ByteArray) (w : World) : Calls Tryd.prog 20 #[.string s] w fun e w' => e = .returned (.int .i64 (kd (tl s))) ∧ Below w.heap.size w w' := by
  obtain ⟨K, hK⟩ : ∃ K, kd (tl s) = K := ⟨_, rfl⟩
  rw [hK]
  have HK := Lib.hid hK
  clear hK
  go_enter Tryd.func20, Tryd.ntmps20
  go_wp2_with fail
  refine (words_any w).mono ?_
  rintro e w1 ⟨B, rfl, hB, hr, b1⟩
  have HR := Lib.hid hr
  have HB := Lib.hid hB
  have H1 := Lib.hid b1
  clear hr b1 hB
  go_wp2_with fail
  go_loopg [4] 11 (fun gk s4 wx => ∃ j : Nat, j + gk = 11 ∧ s4 = .int .i64 j ∧ K = kdF (spl.drop (4 + j)) (4 + j) (tl s) ∧ wx = w1)
  case atStart => exact ⟨0, rfl, rfl, HK.out.symm, rfl⟩
  case round =>
    obtain ⟨j, hjg, rfl, hq, rfl⟩ := hrel
    have HQ := Lib.hid hq
    clear hq
    cases gk with
    | zero =>
      obtain rfl : j = 11 := by omega
      go_wp2_with fail
      refine (marks_any _).mono ?_
      rintro e w2 ⟨C, rfl, hC, hr2, b2⟩
      have HR2 := Lib.hid hr2
      have H2 := Lib.hid (H1.out.trans (b2.mono H1.out.size))
      clear hr2 b2 hC
      go_wp2_with fail
      go_loopg [6] 11 (fun gk s6 wx => ∃ j : Nat, j + gk = 11 ∧ s6 = .int .i64 j ∧ K = kdF (spl.drop (15 + j)) (15 + j) (tl s) ∧ wx = w2)
      case atStart => exact ⟨0, rfl, rfl, HQ.out, rfl⟩
      case round =>
        obtain ⟨i, hig, rfl, hq2, rfl⟩ := hrel
        have HQ2 := Lib.hid hq2
        clear hq2
        cases gk with
        | zero =>
          obtain rfl : i = 11 := by omega
          go_wp2_with fail
          go_ret
          exact ⟨ret_i (by rw [HQ2.out]; rfl), H2.out⟩
        | succ gq =>
          have hi : i < 11 := by omega
          have hi' : ((i : Nat) : Int) < 11 := by omega
          have c1 := HR2.out i hi
          have HD := Lib.hid (spl_drop (15 + i) (by omega))
          by_cases he : sp (15 + i) = tl s
          · have b1 : ((bs (sp (15 + i))).toList == s.toList) = true := by rw [beqq]; exact decide_eq_true he
            have HE := Lib.hid he
            clear he
            generalize bs (sp (15 + i)) = X at c1 b1
            go_wp2_with fail
            go_ret
            exact ⟨ret_i (by rw [HQ2.out, HD.out, kdF, if_pos HE.out]; first | rfl | omega), H2.out⟩
          · have b1 : ((bs (sp (15 + i))).toList == s.toList) = false := by rw [beqq]; exact decide_eq_false he
            have HE := Lib.hid he
            clear he
            generalize bs (sp (15 + i)) = X at c1 b1
            go_wp2_with fail
            go_roundg gq
            case measure => omega
            case rel => exact ⟨i + 1, by omega, by first | rfl | simp, by rw [HQ2.out, HD.out, kdF, if_neg HE.out]; rfl, rfl⟩
    | succ gq =>
      have hj : j < 11 := by omega
      have hj' : ((j : Nat) : Int) < 11 := by omega
      have c1 := HR.out j hj
      have HD := Lib.hid (spl_drop (4 + j) (by omega))
      by_cases he : sp (4 + j) = tl s
      · have b1 : ((bs (sp (4 + j))).toList == s.toList) = true := by rw [beqq]; exact decide_eq_true he
        have HE := Lib.hid he
        clear he
        generalize bs (sp (4 + j)) = X at c1 b1
        go_wp2_with fail
        go_ret
        exact ⟨ret_i (by rw [HQ.out, HD.out, kdF, if_pos HE.out]; first | rfl | omega), H1.out⟩
      · have b1 : ((bs (sp (4 + j))).toList == s.toList) = false := by rw [beqq]; exact decide_eq_false he
        have HE := Lib.hid he
        clear he
        generalize bs (sp (4 + j)) = X at c1 b1
        go_wp2_with fail
        go_roundg gq
        case measure => omega
        case rel => exact ⟨j + 1, by omega, by first | rfl | simp, by rw [HQ.out, HD.out, kdF, if_neg HE.out]; rfl, rfl⟩

theorem tx_low {k : Int} (h : ¬ (4 ≤ k ∧ k < 26)) : tx k = [] := by
  unfold tx
  split
  · rename_i hk
    have : k.toNat = 0 ∨ k.toNat = 1 ∨ k.toNat = 2 ∨ k.toNat = 3 := by omega
    rcases this with h | h | h | h <;> rw [h] <;> rfl
  · rfl
theorem tx_at (n : Nat) (h : n < 26) : tx (n : Int) = sp n := by rw [tx, if_pos ⟨by omega, by omega⟩, Int.toNat_natCast]

set_option maxRecDepth 100000 in
set_option maxHeartbeats 2000000 in
theorem rtext_any (k : Int) (w : World) : Calls Tryd.prog 22 #[.int .i64 k] w fun e w' => e = .returned (.string (bs (tx k))) ∧ Below w.heap.size w w' := by
  obtain ⟨Z, hZ⟩ : ∃ Z, bs (tx k) = Z := ⟨_, rfl⟩
  rw [hZ]
  have HZ := Lib.hid hZ
  clear hZ
  go_enter Tryd.func22, Tryd.ntmps22
  go_wp2_with fail
  refine (words_any w).mono ?_
  rintro e w1 ⟨B, rfl, hB, hr, b1⟩
  have HR := Lib.hid hr
  have H1 := Lib.hid b1
  clear hr b1 hB
  by_cases h1 : 4 ≤ k ∧ k < 15
  · obtain ⟨n, rfl⟩ : ∃ n : Nat, k = ((4 + n : Nat) : Int) := ⟨(k - 4).toNat, by omega⟩
    have hn : n < 11 := by omega
    have c1 := HR.out n hn
    have e1 : bs (sp (4 + n)) = Z := by rw [← HZ.out, tx_at _ (by omega)]
    rw [e1] at c1
    have i1 : ((4 + n : Nat) : Int) - 4 = (n : Int) := by omega
    have q1 : (4 : Int) ≤ ((4 + n : Nat) : Int) := by omega
    have q2 : ((4 + n : Nat) : Int) < 15 := by omega
    clear h1 e1
    generalize ((4 + n : Nat) : Int) = k at q1 q2 i1 HZ ⊢
    go_wp2_with fail
    go_ret
    exact ⟨rfl, H1.out⟩
  · by_cases h2 : 15 ≤ k ∧ k < 26
    · obtain ⟨n, rfl⟩ : ∃ n : Nat, k = ((15 + n : Nat) : Int) := ⟨(k - 15).toNat, by omega⟩
      have hn : n < 11 := by omega
      have e1 : bs (sp (15 + n)) = Z := by rw [← HZ.out, tx_at _ (by omega)]
      have i1 : ((15 + n : Nat) : Int) - 15 = (n : Int) := by omega
      have q1 : (4 : Int) ≤ ((15 + n : Nat) : Int) := by omega
      have q2 : ¬ ((15 + n : Nat) : Int) < 15 := by omega
      have q3 : (15 : Int) ≤ ((15 + n : Nat) : Int) := by omega
      have q4 : ((15 + n : Nat) : Int) < 26 := by omega
      have E1 := Lib.hid e1
      clear h1 h2 e1
      generalize ((15 + n : Nat) : Int) = k at q1 q2 q3 q4 i1 HZ ⊢
      go_wp2_with fail
      refine (marks_any _).mono ?_
      rintro e w2 ⟨C, rfl, hC, hr2, b2⟩
      have c1 := hr2 n hn
      rw [E1.out] at c1
      have H2 := Lib.hid (H1.out.trans (b2.mono H1.out.size))
      clear hr2 b2 hC
      go_wp2_with fail
      go_ret
      exact ⟨rfl, H2.out⟩
    · have hz : Hid (Z = bs []) := by show Z = bs []; rw [← HZ.out, tx_low (by omega)]
      by_cases h3 : k < 4
      · have q1 : ¬ (4 : Int) ≤ k := by omega
        have q2 : ¬ (15 : Int) ≤ k := by omega
        clear h1 h2
        go_wp2_with fail
        refine (marks_any _).mono ?_
        rintro e w2 ⟨C, rfl, hC, hr2, b2⟩
        have H2 := Lib.hid (H1.out.trans (b2.mono H1.out.size))
        clear hr2 b2 hC
        go_wp2_with fail
        go_ret
        exact ⟨by rw [hz.out]; rfl, H2.out⟩
      · have q1 : (4 : Int) ≤ k := by omega
        have q2 : ¬ k < 15 := by omega
        have q3 : (15 : Int) ≤ k := by omega
        have q4 : ¬ k < 26 := by omega
        clear h1 h2 h3
        go_wp2_with fail
        refine (marks_any _).mono ?_
        rintro e w2 ⟨C, rfl, hC, hr2, b2⟩
        have H2 := Lib.hid (H1.out.trans (b2.mono H1.out.size))
        clear hr2 b2 hC
        go_wp2_with fail
        go_ret
        exact ⟨by rw [hz.out]; rfl, H2.out⟩
end Go.Proofs.YteohpiamfpnofaaDoor
