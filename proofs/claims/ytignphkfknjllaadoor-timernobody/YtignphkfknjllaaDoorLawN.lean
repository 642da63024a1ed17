/- A wheel that New did not give; the condition: what stands in its block, if it is one. -/
import Derived.Test.YtignphkfknjllaaDoorWy
namespace Go.Proofs.YtignphkfknjllaaDoor
open Go.RowKit

section
variable {w : World} {p : Option Addr}
set_option maxRecDepth 100000 in
theorem unNow (HM : Calls Tryd.prog 25 #[.pointer p] w fun e w' => e = .returned (.bool false) ∧ w' = w) : Calls Tryd.prog 13 #[.pointer p] w fun e w' => e = .returned (.int .i64 0) ∧ w' = w := by
  have H := Lib.hid HM
  clear HM
  go_enter Tryd.func13, Tryd.ntmps13
  go_wp2_with (go_at_call 25; refine H.out.mono ?_; rintro e w9 ⟨rfl, hw9⟩; rw [hw9]; clear hw9 w9)
  go_ret
  exact ⟨rfl, rfl⟩
set_option maxRecDepth 100000 in
theorem unLen (HM : Calls Tryd.prog 25 #[.pointer p] w fun e w' => e = .returned (.bool false) ∧ w' = w) : Calls Tryd.prog 17 #[.pointer p] w fun e w' => e = .returned (.int .i64 0) ∧ w' = w := by
  have H := Lib.hid HM
  clear HM
  go_enter Tryd.func17, Tryd.ntmps17
  go_wp2_with (go_at_call 25; refine H.out.mono ?_; rintro e w9 ⟨rfl, hw9⟩; rw [hw9]; clear hw9 w9)
  go_ret
  exact ⟨rfl, rfl⟩
set_option maxRecDepth 100000 in
theorem unGo (x : Int) (HM : Calls Tryd.prog 25 #[.pointer p] w fun e w' => e = .returned (.bool false) ∧ w' = w) : Calls Tryd.prog 15 #[.pointer p, .int .i64 x] w fun e w' => e = .returned (.slice none 0 0) ∧ w' = w := by
  have H := Lib.hid HM
  clear HM
  go_enter Tryd.func15, Tryd.ntmps15
  go_wp2_with (go_at_call 25; refine H.out.mono ?_; rintro e w9 ⟨rfl, hw9⟩; rw [hw9]; clear hw9 w9)
  go_ret
  exact ⟨rfl, rfl⟩
set_option maxRecDepth 100000 in
theorem unCancel (i : Int) (HM : Calls Tryd.prog 25 #[.pointer p] w fun e w' => e = .returned (.bool false) ∧ w' = w) : Calls Tryd.prog 19 #[.pointer p, .int .i64 i] w fun e w' => e = .returned (.bool false) ∧ w' = w := by
  have H := Lib.hid HM
  clear HM
  go_enter Tryd.func19, Tryd.ntmps19
  go_wp2_with (go_at_call 25; refine H.out.mono ?_; rintro e w9 ⟨rfl, hw9⟩; rw [hw9]; clear hw9 w9)
  go_ret
  exact ⟨rfl, rfl⟩
set_option maxRecDepth 100000 in
theorem unAdd (x i : Int) (HM : Calls Tryd.prog 25 #[.pointer p] w fun e w' => e = .returned (.bool false) ∧ w' = w) : Calls Tryd.prog 20 #[.pointer p, .int .i64 x, .int .i64 i] w fun e w' => e = .returned (.bool false) ∧ w' = w := by
  have H := Lib.hid HM
  clear HM
  go_enter Tryd.func20, Tryd.ntmps20
  go_wp2_with (go_at_call 25; refine H.out.mono ?_; rintro e w9 ⟨rfl, hw9⟩; rw [hw9]; clear hw9 w9)
  go_ret
  exact ⟨rfl, rfl⟩
set_option maxRecDepth 100000 in
theorem unNext (HM : Calls Tryd.prog 25 #[.pointer p] w fun e w' => e = .returned (.bool false) ∧ w' = w) : Calls Tryd.prog 18 #[.pointer p] w fun e w' => e = .returned (.tuple #[.int .i64 0, .bool false]) ∧ w' = w := by
  have H := Lib.hid HM
  clear HM
  go_enter Tryd.func18, Tryd.ntmps18
  go_wp2_with (go_at_call 25; refine H.out.mono ?_; rintro e w9 ⟨rfl, hw9⟩; rw [hw9]; clear hw9 w9)
  go_ret2
  exact ⟨rfl, rfl⟩
end
set_option maxRecDepth 100000 in
set_option maxHeartbeats 2000000 in
theorem law_nobody (plain : Bool) (x i : Int) (w : World) (hT : Tb w) (h0 : 0 < w.heap.size) : Calls Tryd.prog 6 #[.bool plain, .int .i64 x, .int .i64 i] w fun e w' => e = .returned (.bool true) ∧ Below w.heap.size w w' := by
  have z1 := zero_w
  cases plain with
  | false =>
    have AW := Lib.hid (awake_any w hT h0)
    have HM := made_nil w
    clear hT
    go_enter Tryd.func6, Tryd.ntmps6
    have UNow := Lib.hid (unNow (w := w) (p := none) HM)
    have ULen := Lib.hid (unLen (w := w) (p := none) HM)
    have UGo := Lib.hid (unGo (w := w) (p := none) x HM)
    have UCancel := Lib.hid (unCancel (w := w) (p := none) i HM)
    have UAdd := Lib.hid (unAdd (w := w) (p := none) x i HM)
    have UNext := Lib.hid (unNext (w := w) (p := none) HM)
    clear HM
    go_wp2_with fail
    go_loopw [8] (fun s8 wr => ∃ j : Nat, j ≤ 2 ∧ s8 = .int .i64 j ∧ wr = w) (fun s8 _ => 2 - (intOf s8).toNat)
    case atStart => exact ⟨0, by omega, rfl, rfl⟩
    case round =>
      obtain ⟨j, hj, rfl, rfl⟩ := hrel
      by_cases hlt : j < 2
      · have j1 : ((j : Nat) : Int) < 2 := by omega
        go_wp2_with (first | (go_at_call 13; refine (UNow.out).mono ?_; rintro e w9 ⟨rfl, hw9⟩; rw [hw9]; clear hw9 w9) | (go_at_call 17; refine (ULen.out).mono ?_; rintro e w9 ⟨rfl, hw9⟩; rw [hw9]; clear hw9 w9) | (go_at_call 15; refine (UGo.out).mono ?_; rintro e w9 ⟨rfl, hw9⟩; rw [hw9]; clear hw9 w9) | (go_at_call 19; refine (UCancel.out).mono ?_; rintro e w9 ⟨rfl, hw9⟩; rw [hw9]; clear hw9 w9) | (go_at_call 20; refine (UAdd.out).mono ?_; rintro e w9 ⟨rfl, hw9⟩; rw [hw9]; clear hw9 w9) | (go_at_call 18; refine (UNext.out).mono ?_; rintro e w9 ⟨rfl, hw9⟩; rw [hw9]; clear hw9 w9))
        exact ⟨⟨j + 1, by omega, by go_num, by trivial⟩, by simp [intOf]; omega⟩
      · have j1 : ¬ ((j : Nat) : Int) < 2 := by omega
        go_wp2_with (go_at_call 11; refine AW.out.mono ?_; rintro e w9 ⟨rfl, hb9⟩)
        go_ret
        exact ⟨rfl, hb9⟩
  | true =>
    have B1 := below1 w (.cells (zw (.int .i64 0) (.map none)) 58)
    have AW := Lib.hid (awake_any _ (hT.below B1) (by simp))
    have HM := made_plain w.heap.size (w.alloc (.cells (zw (.int .i64 0) (.map none)) 58)) (by rw [(Bk.new w _ _).c 1]; exact (zw_01 _ _).2)
    clear hT
    go_enter Tryd.func6, Tryd.ntmps6
    have UNow := Lib.hid (unNow (w := (w.alloc (.cells (zw (.int .i64 0) (.map none)) 58))) (p := (some ⟨w.heap.size, 0, none⟩)) HM)
    have ULen := Lib.hid (unLen (w := (w.alloc (.cells (zw (.int .i64 0) (.map none)) 58))) (p := (some ⟨w.heap.size, 0, none⟩)) HM)
    have UGo := Lib.hid (unGo (w := (w.alloc (.cells (zw (.int .i64 0) (.map none)) 58))) (p := (some ⟨w.heap.size, 0, none⟩)) x HM)
    have UCancel := Lib.hid (unCancel (w := (w.alloc (.cells (zw (.int .i64 0) (.map none)) 58))) (p := (some ⟨w.heap.size, 0, none⟩)) i HM)
    have UAdd := Lib.hid (unAdd (w := (w.alloc (.cells (zw (.int .i64 0) (.map none)) 58))) (p := (some ⟨w.heap.size, 0, none⟩)) x i HM)
    have UNext := Lib.hid (unNext (w := (w.alloc (.cells (zw (.int .i64 0) (.map none)) 58))) (p := (some ⟨w.heap.size, 0, none⟩)) HM)
    clear HM
    go_wp2_with fail
    go_loopw [8] (fun s8 wr => ∃ j : Nat, j ≤ 2 ∧ s8 = .int .i64 j ∧ wr = (w.alloc (.cells (zw (.int .i64 0) (.map none)) 58))) (fun s8 _ => 2 - (intOf s8).toNat)
    case atStart => exact ⟨0, by omega, rfl, rfl⟩
    case round =>
      obtain ⟨j, hj, rfl, rfl⟩ := hrel
      by_cases hlt : j < 2
      · have j1 : ((j : Nat) : Int) < 2 := by omega
        go_wp2_with (first | (go_at_call 13; refine (UNow.out).mono ?_; rintro e w9 ⟨rfl, hw9⟩; rw [hw9]; clear hw9 w9) | (go_at_call 17; refine (ULen.out).mono ?_; rintro e w9 ⟨rfl, hw9⟩; rw [hw9]; clear hw9 w9) | (go_at_call 15; refine (UGo.out).mono ?_; rintro e w9 ⟨rfl, hw9⟩; rw [hw9]; clear hw9 w9) | (go_at_call 19; refine (UCancel.out).mono ?_; rintro e w9 ⟨rfl, hw9⟩; rw [hw9]; clear hw9 w9) | (go_at_call 20; refine (UAdd.out).mono ?_; rintro e w9 ⟨rfl, hw9⟩; rw [hw9]; clear hw9 w9) | (go_at_call 18; refine (UNext.out).mono ?_; rintro e w9 ⟨rfl, hw9⟩; rw [hw9]; clear hw9 w9))
        exact ⟨⟨j + 1, by omega, by go_num, by trivial⟩, by simp [intOf]; omega⟩
      · have j1 : ¬ ((j : Nat) : Int) < 2 := by omega
        go_wp2_with (go_at_call 11; refine AW.out.mono ?_; rintro e w9 ⟨rfl, hb9⟩)
        go_ret
        exact ⟨rfl, B1.trans (hb9.mono B1.size)⟩
end Go.Proofs.YtignphkfknjllaaDoor
