/- Kind of the document's own answer; no condition but those that each theorem names. -/
import Derived.Test.YtbkakdmkabhcnaaDoorSg
namespace Go.Proofs.YtbkakdmkabhcnaaDoor
open Go.RowKit

/-- Texts of kinds in a row, from a kind on. -/
def KRow (w : World) (B f : Nat) : Prop := ∀ j, j < 11 → w.cell? ⟨B, j, none⟩ = some (.string (bs (sp (f + j))))
theorem KRow.below {n : Nat} {A W : World} {B f : Nat} (h : KRow A B f) (hB : Below n A W) (hn : B < n) : KRow W B f := fun j hj => (hB.cell (p := ⟨B, j, none⟩) hn).trans (h j hj)

set_option maxRecDepth 100000 in
set_option maxHeartbeats 2000000 in
theorem words_any (w : World) : Calls Tryd.prog 32 #[] w fun e w' => ∃ B, e = .returned (.slice (some ⟨B, 0, none⟩) 11 11) ∧ B < w'.heap.size ∧ KRow w' B 4 ∧ Below w.heap.size w w' := by
  go_enter Tryd.func32, Tryd.ntmps32
  go_wp2
  go_ret
  refine ⟨w.heap.size, rfl, by simp, fun j hj => ?_, below1 _ _⟩
  rw [cell_new]
  rcases (by omega : j = 0 ∨ j = 1 ∨ j = 2 ∨ j = 3 ∨ j = 4 ∨ j = 5 ∨ j = 6 ∨ j = 7 ∨ j = 8 ∨ j = 9 ∨ j = 10) with rfl | rfl | rfl | rfl | rfl | rfl | rfl | rfl | rfl | rfl | rfl <;> rfl

set_option maxRecDepth 100000 in
set_option maxHeartbeats 2000000 in
theorem marks_any (w : World) : Calls Tryd.prog 33 #[] w fun e w' => ∃ B, e = .returned (.slice (some ⟨B, 0, none⟩) 11 11) ∧ B < w'.heap.size ∧ KRow w' B 15 ∧ Below w.heap.size w w' := by
  go_enter Tryd.func33, Tryd.ntmps33
  go_wp2
  go_ret
  refine ⟨w.heap.size, rfl, by simp, fun j hj => ?_, below1 _ _⟩
  rw [cell_new]
  rcases (by omega : j = 0 ∨ j = 1 ∨ j = 2 ∨ j = 3 ∨ j = 4 ∨ j = 5 ∨ j = 6 ∨ j = 7 ∨ j = 8 ∨ j = 9 ∨ j = 10) with rfl | rfl | rfl | rfl | rfl | rfl | rfl | rfl | rfl | rfl | rfl <;> rfl

set_option maxRecDepth 100000 in
set_option maxHeartbeats 2000000 in
theorem rkind_any (s : ByteArray) (w : World) : Calls Tryd.prog 25 #[.string s] w fun e w' => e = .returned (.int .i64 (kd (tl s))) ∧ Below w.heap.size w w' := by
  obtain ⟨K, hK⟩ : ∃ K, kd (tl s) = K := ⟨_, rfl⟩
  rw [hK]
  have HK := Lib.hid hK
  clear hK
  go_enter Tryd.func25, Tryd.ntmps25
  go_wp2_with fail
  refine (words_any w).mono ?_
  rintro e w1 ⟨B, rfl, hB, hr, b1⟩
  have HR := Lib.hid hr
  have HB := Lib.hid hB
  have H1 := Lib.hid b1
  clear hr b1 hB
  go_wp2_with fail
  go_loopg [4] 11 (fun gk s4 wx => ∃ j : Nat, j + gk = 11 ∧ s4 = .int .i64 j ∧ K = kdF (spl.drop (4 + j)) (4 + j) (tl s) ∧ wx = w1)
  case atStart => exact ⟨0, rfl, rfl, HK.out.symm, rfl⟩
  case round =>
    obtain ⟨j, hjg, rfl, hq, rfl⟩ := hrel
    have HQ := Lib.hid hq
    clear hq
    cases gk with
    | zero =>
      obtain rfl : j = 11 := by omega
      go_wp2_with fail
      refine (marks_any _).mono ?_
      rintro e w2 ⟨C, rfl, hC, hr2, b2⟩
      have HR2 := Lib.hid hr2
      have H2 := Lib.hid (H1.out.trans (b2.mono H1.out.size))
      clear hr2 b2 hC
      go_wp2_with fail
      go_loopg [6] 11 (fun gk s6 wx => ∃ j : Nat, j + gk = 11 ∧ s6 = .int .i64 j ∧ K = kdF (spl.drop (15 + j)) (15 + j) (tl s) ∧ wx = w2)
      case atStart => exact ⟨0, rfl, rfl, HQ.out, rfl⟩
      case round =>
        obtain ⟨i, hig, rfl, hq2, rfl⟩ := hrel
        have HQ2 := Lib.hid hq2
        clear hq2
        cases gk with
        | zero =>
          obtain rfl : i = 11 := by omega
          go_wp2_with fail
          go_ret
          exact ⟨ret_i (by rw [HQ2.out]; rfl), H2.out⟩
        | succ gq =>
          have hi : i < 11 := by omega
          have hi' : ((i : Nat) : Int) < 11 := by omega
          have c1 := HR2.out i hi
          have HD := Lib.hid (spl_drop (15 + i) (by omega))
          by_cases he : sp (15 + i) = tl s
          · have b1 : ((bs (sp (15 + i))).toList == s.toList) = true := by rw [beqq]; exact decide_eq_true he
            have HE := Lib.hid he
            clear he
            generalize bs (sp (15 + i)) = X at c1 b1
            go_wp2_with fail
            go_ret
            exact ⟨ret_i (by rw [HQ2.out, HD.out, kdF, if_pos HE.out]; first | rfl | omega), H2.out⟩
          · have b1 : ((bs (sp (15 + i))).toList == s.toList) = false := by rw [beqq]; exact decide_eq_false he
            have HE := Lib.hid he
            clear he
            generalize bs (sp (15 + i)) = X at c1 b1
            go_wp2_with fail
            go_roundg gq
            case measure => omega
            case rel => exact ⟨i + 1, by omega, by first | rfl | simp, by rw [HQ2.out, HD.out, kdF, if_neg HE.out]; rfl, rfl⟩
    | succ gq =>
      have hj : j < 11 := by omega
      have hj' : ((j : Nat) : Int) < 11 := by omega
      have c1 := HR.out j hj
      have HD := Lib.hid (spl_drop (4 + j) (by omega))
      by_cases he : sp (4 + j) = tl s
      · have b1 : ((bs (sp (4 + j))).toList == s.toList) = true := by rw [beqq]; exact decide_eq_true he
        have HE := Lib.hid he
        clear he
        generalize bs (sp (4 + j)) = X at c1 b1
        go_wp2_with fail
        go_ret
        exact ⟨ret_i (by rw [HQ.out, HD.out, kdF, if_pos HE.out]; first | rfl | omega), H1.out⟩
      · have b1 : ((bs (sp (4 + j))).toList == s.toList) = false := by rw [beqq]; exact decide_eq_false he
        have HE := Lib.hid he
        clear he
        generalize bs (sp (4 + j)) = X at c1 b1
        go_wp2_with fail
        go_roundg gq
        case measure => omega
        case rel => exact ⟨j + 1, by omega, by first | rfl | simp, by rw [HQ.out, HD.out, kdF, if_neg HE.out]; rfl, rfl⟩

end Go.Proofs.YtbkakdmkabhcnaaDoor
