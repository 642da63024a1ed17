/- The package's Has and the document's Has at every two numbers: the table's answer, in new memory alone; no condition. -/
import Derived.Test.YtgpbnmlcfimnnaaGreatDoorKinds
namespace Go.Proofs.YtgpbnmlcfimnnaaGreatDoor
open Go.RowKit
theorem ret_true {b : Bool} (h : b = true) : Ending.returned (.bool true) = .returned (.bool b) := by rw [h]

theorem faceA0 {k : Int} {u : Value} (hk : Kd k u) : ∃ x, ∀ w, (Instr.typeAssert u 20 51 true).run Tryz.prog w = .ok (.tuple #[x, .bool (refHas k 0)]) w := by
  rcases hk.cases with ⟨h0, rfl⟩ | ⟨rfl, a, rfl⟩ | ⟨rfl, a, rfl⟩ | ⟨rfl, a, rfl⟩ | ⟨rfl, a, rfl⟩ | ⟨rfl, a, rfl⟩ | ⟨rfl, a, rfl⟩ | ⟨rfl, a, rfl⟩ | ⟨rfl, a, rfl⟩ | ⟨rfl, a, b, rfl, ha, hb⟩ | ⟨rfl, c, a, rfl⟩ | ⟨rfl, a, rfl⟩ | ⟨rfl, rfl⟩ | ⟨rfl, rfl⟩
  · have : refHas k 0 = false := by unfold refHas; simp; omega
    rw [this]; exact ⟨.nilIface, fun w => assert_nil Tryz.underlying51 (by kernel_rfl)⟩
  · exact ⟨.nilIface, fun w => run_typeAssert_lacksB Tryz.underlying51 (by kernel_rfl) (by kernel_rfl) _ _ w⟩
  · exact ⟨.nilIface, fun w => run_typeAssert_lacksB Tryz.underlying51 (by kernel_rfl) (by kernel_rfl) _ _ w⟩
  · exact ⟨.nilIface, fun w => run_typeAssert_lacksB Tryz.underlying51 (by kernel_rfl) (by kernel_rfl) _ _ w⟩
  · exact ⟨_, fun w => run_typeAssert_hasB Tryz.underlying51 (by kernel_rfl) _ _ w⟩
  · exact ⟨_, fun w => run_typeAssert_hasB Tryz.underlying51 (by kernel_rfl) _ _ w⟩
  · exact ⟨.nilIface, fun w => run_typeAssert_lacksB Tryz.underlying51 (by kernel_rfl) (by kernel_rfl) _ _ w⟩
  · exact ⟨_, fun w => run_typeAssert_hasB Tryz.underlying51 (by kernel_rfl) _ _ w⟩
  · exact ⟨_, fun w => run_typeAssert_hasB Tryz.underlying51 (by kernel_rfl) _ _ w⟩
  · exact ⟨_, fun w => run_typeAssert_hasB Tryz.underlying51 (by kernel_rfl) _ _ w⟩
  · exact ⟨.nilIface, fun w => run_typeAssert_lacksB Tryz.underlying51 (by kernel_rfl) (by kernel_rfl) _ _ w⟩
  · exact ⟨_, fun w => run_typeAssert_hasB Tryz.underlying51 (by kernel_rfl) _ _ w⟩
  · exact ⟨_, fun w => run_typeAssert_hasB Tryz.underlying51 (by kernel_rfl) _ _ w⟩
  · exact ⟨.nilIface, fun w => run_typeAssert_lacksB Tryz.underlying51 (by kernel_rfl) (by kernel_rfl) _ _ w⟩
theorem faceA1 {k : Int} {u : Value} (hk : Kd k u) : ∃ x, ∀ w, (Instr.typeAssert u 20 54 true).run Tryz.prog w = .ok (.tuple #[x, .bool (refHas k 1)]) w := by
  rcases hk.cases with ⟨h0, rfl⟩ | ⟨rfl, a, rfl⟩ | ⟨rfl, a, rfl⟩ | ⟨rfl, a, rfl⟩ | ⟨rfl, a, rfl⟩ | ⟨rfl, a, rfl⟩ | ⟨rfl, a, rfl⟩ | ⟨rfl, a, rfl⟩ | ⟨rfl, a, rfl⟩ | ⟨rfl, a, b, rfl, ha, hb⟩ | ⟨rfl, c, a, rfl⟩ | ⟨rfl, a, rfl⟩ | ⟨rfl, rfl⟩ | ⟨rfl, rfl⟩
  · have : refHas k 1 = false := by unfold refHas; simp; omega
    rw [this]; exact ⟨.nilIface, fun w => assert_nil Tryz.underlying54 (by kernel_rfl)⟩
  · exact ⟨.nilIface, fun w => run_typeAssert_lacksB Tryz.underlying54 (by kernel_rfl) (by kernel_rfl) _ _ w⟩
  · exact ⟨_, fun w => run_typeAssert_hasB Tryz.underlying54 (by kernel_rfl) _ _ w⟩
  · exact ⟨.nilIface, fun w => run_typeAssert_lacksB Tryz.underlying54 (by kernel_rfl) (by kernel_rfl) _ _ w⟩
  · exact ⟨.nilIface, fun w => run_typeAssert_lacksB Tryz.underlying54 (by kernel_rfl) (by kernel_rfl) _ _ w⟩
  · exact ⟨_, fun w => run_typeAssert_hasB Tryz.underlying54 (by kernel_rfl) _ _ w⟩
  · exact ⟨.nilIface, fun w => run_typeAssert_lacksB Tryz.underlying54 (by kernel_rfl) (by kernel_rfl) _ _ w⟩
  · exact ⟨.nilIface, fun w => run_typeAssert_lacksB Tryz.underlying54 (by kernel_rfl) (by kernel_rfl) _ _ w⟩
  · exact ⟨.nilIface, fun w => run_typeAssert_lacksB Tryz.underlying54 (by kernel_rfl) (by kernel_rfl) _ _ w⟩
  · exact ⟨.nilIface, fun w => run_typeAssert_lacksB Tryz.underlying54 (by kernel_rfl) (by kernel_rfl) _ _ w⟩
  · exact ⟨_, fun w => run_typeAssert_hasB Tryz.underlying54 (by kernel_rfl) _ _ w⟩
  · exact ⟨.nilIface, fun w => run_typeAssert_lacksB Tryz.underlying54 (by kernel_rfl) (by kernel_rfl) _ _ w⟩
  · exact ⟨.nilIface, fun w => run_typeAssert_lacksB Tryz.underlying54 (by kernel_rfl) (by kernel_rfl) _ _ w⟩
  · exact ⟨.nilIface, fun w => run_typeAssert_lacksB Tryz.underlying54 (by kernel_rfl) (by kernel_rfl) _ _ w⟩
theorem faceA2 {k : Int} {u : Value} (hk : Kd k u) : ∃ x, ∀ w, (Instr.typeAssert u 20 57 true).run Tryz.prog w = .ok (.tuple #[x, .bool (refHas k 2)]) w := by
  rcases hk.cases with ⟨h0, rfl⟩ | ⟨rfl, a, rfl⟩ | ⟨rfl, a, rfl⟩ | ⟨rfl, a, rfl⟩ | ⟨rfl, a, rfl⟩ | ⟨rfl, a, rfl⟩ | ⟨rfl, a, rfl⟩ | ⟨rfl, a, rfl⟩ | ⟨rfl, a, rfl⟩ | ⟨rfl, a, b, rfl, ha, hb⟩ | ⟨rfl, c, a, rfl⟩ | ⟨rfl, a, rfl⟩ | ⟨rfl, rfl⟩ | ⟨rfl, rfl⟩
  · have : refHas k 2 = false := by unfold refHas; simp; omega
    rw [this]; exact ⟨.nilIface, fun w => assert_nil Tryz.underlying57 (by kernel_rfl)⟩
  · exact ⟨.nilIface, fun w => run_typeAssert_lacksB Tryz.underlying57 (by kernel_rfl) (by kernel_rfl) _ _ w⟩
  · exact ⟨.nilIface, fun w => run_typeAssert_lacksB Tryz.underlying57 (by kernel_rfl) (by kernel_rfl) _ _ w⟩
  · exact ⟨.nilIface, fun w => run_typeAssert_lacksB Tryz.underlying57 (by kernel_rfl) (by kernel_rfl) _ _ w⟩
  · exact ⟨.nilIface, fun w => run_typeAssert_lacksB Tryz.underlying57 (by kernel_rfl) (by kernel_rfl) _ _ w⟩
  · exact ⟨.nilIface, fun w => run_typeAssert_lacksB Tryz.underlying57 (by kernel_rfl) (by kernel_rfl) _ _ w⟩
  · exact ⟨.nilIface, fun w => run_typeAssert_lacksB Tryz.underlying57 (by kernel_rfl) (by kernel_rfl) _ _ w⟩
  · exact ⟨.nilIface, fun w => run_typeAssert_lacksB Tryz.underlying57 (by kernel_rfl) (by kernel_rfl) _ _ w⟩
  · exact ⟨.nilIface, fun w => run_typeAssert_lacksB Tryz.underlying57 (by kernel_rfl) (by kernel_rfl) _ _ w⟩
  · exact ⟨.nilIface, fun w => run_typeAssert_lacksB Tryz.underlying57 (by kernel_rfl) (by kernel_rfl) _ _ w⟩
  · exact ⟨_, fun w => run_typeAssert_hasB Tryz.underlying57 (by kernel_rfl) _ _ w⟩
  · exact ⟨_, fun w => run_typeAssert_hasB Tryz.underlying57 (by kernel_rfl) _ _ w⟩
  · exact ⟨_, fun w => run_typeAssert_hasB Tryz.underlying57 (by kernel_rfl) _ _ w⟩
  · exact ⟨.nilIface, fun w => run_typeAssert_lacksB Tryz.underlying57 (by kernel_rfl) (by kernel_rfl) _ _ w⟩
theorem faceA3 {k : Int} {u : Value} (hk : Kd k u) : ∃ x, ∀ w, (Instr.typeAssert u 20 60 true).run Tryz.prog w = .ok (.tuple #[x, .bool (refHas k 3)]) w := by
  rcases hk.cases with ⟨h0, rfl⟩ | ⟨rfl, a, rfl⟩ | ⟨rfl, a, rfl⟩ | ⟨rfl, a, rfl⟩ | ⟨rfl, a, rfl⟩ | ⟨rfl, a, rfl⟩ | ⟨rfl, a, rfl⟩ | ⟨rfl, a, rfl⟩ | ⟨rfl, a, rfl⟩ | ⟨rfl, a, b, rfl, ha, hb⟩ | ⟨rfl, c, a, rfl⟩ | ⟨rfl, a, rfl⟩ | ⟨rfl, rfl⟩ | ⟨rfl, rfl⟩
  · have : refHas k 3 = false := by unfold refHas; simp; omega
    rw [this]; exact ⟨.nilIface, fun w => assert_nil Tryz.underlying60 (by kernel_rfl)⟩
  · exact ⟨.nilIface, fun w => run_typeAssert_lacksB Tryz.underlying60 (by kernel_rfl) (by kernel_rfl) _ _ w⟩
  · exact ⟨.nilIface, fun w => run_typeAssert_lacksB Tryz.underlying60 (by kernel_rfl) (by kernel_rfl) _ _ w⟩
  · exact ⟨.nilIface, fun w => run_typeAssert_lacksB Tryz.underlying60 (by kernel_rfl) (by kernel_rfl) _ _ w⟩
  · exact ⟨.nilIface, fun w => run_typeAssert_lacksB Tryz.underlying60 (by kernel_rfl) (by kernel_rfl) _ _ w⟩
  · exact ⟨.nilIface, fun w => run_typeAssert_lacksB Tryz.underlying60 (by kernel_rfl) (by kernel_rfl) _ _ w⟩
  · exact ⟨.nilIface, fun w => run_typeAssert_lacksB Tryz.underlying60 (by kernel_rfl) (by kernel_rfl) _ _ w⟩
  · exact ⟨.nilIface, fun w => run_typeAssert_lacksB Tryz.underlying60 (by kernel_rfl) (by kernel_rfl) _ _ w⟩
  · exact ⟨.nilIface, fun w => run_typeAssert_lacksB Tryz.underlying60 (by kernel_rfl) (by kernel_rfl) _ _ w⟩
  · exact ⟨.nilIface, fun w => run_typeAssert_lacksB Tryz.underlying60 (by kernel_rfl) (by kernel_rfl) _ _ w⟩
  · exact ⟨.nilIface, fun w => run_typeAssert_lacksB Tryz.underlying60 (by kernel_rfl) (by kernel_rfl) _ _ w⟩
  · exact ⟨_, fun w => run_typeAssert_hasB Tryz.underlying60 (by kernel_rfl) _ _ w⟩
  · exact ⟨_, fun w => run_typeAssert_hasB Tryz.underlying60 (by kernel_rfl) _ _ w⟩
  · exact ⟨.nilIface, fun w => run_typeAssert_lacksB Tryz.underlying60 (by kernel_rfl) (by kernel_rfl) _ _ w⟩
theorem faceA4 {k : Int} {u : Value} (hk : Kd k u) : ∃ x, ∀ w, (Instr.typeAssert u 20 42 true).run Tryz.prog w = .ok (.tuple #[x, .bool (refHas k 4)]) w := by
  rcases hk.cases with ⟨h0, rfl⟩ | ⟨rfl, a, rfl⟩ | ⟨rfl, a, rfl⟩ | ⟨rfl, a, rfl⟩ | ⟨rfl, a, rfl⟩ | ⟨rfl, a, rfl⟩ | ⟨rfl, a, rfl⟩ | ⟨rfl, a, rfl⟩ | ⟨rfl, a, rfl⟩ | ⟨rfl, a, b, rfl, ha, hb⟩ | ⟨rfl, c, a, rfl⟩ | ⟨rfl, a, rfl⟩ | ⟨rfl, rfl⟩ | ⟨rfl, rfl⟩
  · have : refHas k 4 = false := by unfold refHas; simp; omega
    rw [this]; exact ⟨.nilIface, fun w => assert_nil Tryz.underlying42 (by kernel_rfl)⟩
  · exact ⟨_, fun w => run_typeAssert_hasB Tryz.underlying42 (by kernel_rfl) _ _ w⟩
  · exact ⟨_, fun w => run_typeAssert_hasB Tryz.underlying42 (by kernel_rfl) _ _ w⟩
  · exact ⟨_, fun w => run_typeAssert_hasB Tryz.underlying42 (by kernel_rfl) _ _ w⟩
  · exact ⟨_, fun w => run_typeAssert_hasB Tryz.underlying42 (by kernel_rfl) _ _ w⟩
  · exact ⟨_, fun w => run_typeAssert_hasB Tryz.underlying42 (by kernel_rfl) _ _ w⟩
  · exact ⟨.nilIface, fun w => run_typeAssert_lacksB Tryz.underlying42 (by kernel_rfl) (by kernel_rfl) _ _ w⟩
  · exact ⟨.nilIface, fun w => run_typeAssert_lacksB Tryz.underlying42 (by kernel_rfl) (by kernel_rfl) _ _ w⟩
  · exact ⟨.nilIface, fun w => run_typeAssert_lacksB Tryz.underlying42 (by kernel_rfl) (by kernel_rfl) _ _ w⟩
  · exact ⟨.nilIface, fun w => run_typeAssert_lacksB Tryz.underlying42 (by kernel_rfl) (by kernel_rfl) _ _ w⟩
  · exact ⟨.nilIface, fun w => run_typeAssert_lacksB Tryz.underlying42 (by kernel_rfl) (by kernel_rfl) _ _ w⟩
  · exact ⟨.nilIface, fun w => run_typeAssert_lacksB Tryz.underlying42 (by kernel_rfl) (by kernel_rfl) _ _ w⟩
  · exact ⟨.nilIface, fun w => run_typeAssert_lacksB Tryz.underlying42 (by kernel_rfl) (by kernel_rfl) _ _ w⟩
  · exact ⟨.nilIface, fun w => run_typeAssert_lacksB Tryz.underlying42 (by kernel_rfl) (by kernel_rfl) _ _ w⟩
theorem faceA5 {k : Int} {u : Value} (hk : Kd k u) : ∃ x, ∀ w, (Instr.typeAssert u 20 63 true).run Tryz.prog w = .ok (.tuple #[x, .bool (refHas k 5)]) w := by
  rcases hk.cases with ⟨h0, rfl⟩ | ⟨rfl, a, rfl⟩ | ⟨rfl, a, rfl⟩ | ⟨rfl, a, rfl⟩ | ⟨rfl, a, rfl⟩ | ⟨rfl, a, rfl⟩ | ⟨rfl, a, rfl⟩ | ⟨rfl, a, rfl⟩ | ⟨rfl, a, rfl⟩ | ⟨rfl, a, b, rfl, ha, hb⟩ | ⟨rfl, c, a, rfl⟩ | ⟨rfl, a, rfl⟩ | ⟨rfl, rfl⟩ | ⟨rfl, rfl⟩
  · have : refHas k 5 = false := by unfold refHas; simp; omega
    rw [this]; exact ⟨.nilIface, fun w => assert_nil Tryz.underlying63 (by kernel_rfl)⟩
  · exact ⟨_, fun w => run_typeAssert_hasB Tryz.underlying63 (by kernel_rfl) _ _ w⟩
  · exact ⟨.nilIface, fun w => run_typeAssert_lacksB Tryz.underlying63 (by kernel_rfl) (by kernel_rfl) _ _ w⟩
  · exact ⟨_, fun w => run_typeAssert_hasB Tryz.underlying63 (by kernel_rfl) _ _ w⟩
  · exact ⟨.nilIface, fun w => run_typeAssert_lacksB Tryz.underlying63 (by kernel_rfl) (by kernel_rfl) _ _ w⟩
  · exact ⟨.nilIface, fun w => run_typeAssert_lacksB Tryz.underlying63 (by kernel_rfl) (by kernel_rfl) _ _ w⟩
  · exact ⟨.nilIface, fun w => run_typeAssert_lacksB Tryz.underlying63 (by kernel_rfl) (by kernel_rfl) _ _ w⟩
  · exact ⟨.nilIface, fun w => run_typeAssert_lacksB Tryz.underlying63 (by kernel_rfl) (by kernel_rfl) _ _ w⟩
  · exact ⟨.nilIface, fun w => run_typeAssert_lacksB Tryz.underlying63 (by kernel_rfl) (by kernel_rfl) _ _ w⟩
  · exact ⟨.nilIface, fun w => run_typeAssert_lacksB Tryz.underlying63 (by kernel_rfl) (by kernel_rfl) _ _ w⟩
  · exact ⟨.nilIface, fun w => run_typeAssert_lacksB Tryz.underlying63 (by kernel_rfl) (by kernel_rfl) _ _ w⟩
  · exact ⟨.nilIface, fun w => run_typeAssert_lacksB Tryz.underlying63 (by kernel_rfl) (by kernel_rfl) _ _ w⟩
  · exact ⟨.nilIface, fun w => run_typeAssert_lacksB Tryz.underlying63 (by kernel_rfl) (by kernel_rfl) _ _ w⟩
  · exact ⟨.nilIface, fun w => run_typeAssert_lacksB Tryz.underlying63 (by kernel_rfl) (by kernel_rfl) _ _ w⟩

set_option maxHeartbeats 400000 in
theorem answers_any (k m : Int) (u : Value) (hk : Kd k u) (w : World) :
    Calls Tryz.prog 12 #[u, .int .i64 m] w fun e w' => e = .returned (.bool (refHas k m)) ∧ w' = w := by
  obtain ⟨x0, f0⟩ := faceA0 hk
  obtain ⟨x1, f1⟩ := faceA1 hk
  obtain ⟨x2, f2⟩ := faceA2 hk
  obtain ⟨x3, f3⟩ := faceA3 hk
  obtain ⟨x4, f4⟩ := faceA4 hk
  obtain ⟨x5, f5⟩ := faceA5 hk
  clear hk
  by_cases c0 : m = 0
  · subst c0
    generalize refHas k 0 = bb at f0
    go_enter Tryz.func12, Tryz.ntmps12
    go_wp2
    go_ret; exact ⟨rfl, rfl⟩
  by_cases c1 : m = 1
  · subst c1
    clear c0
    generalize refHas k 1 = bb at f1
    go_enter Tryz.func12, Tryz.ntmps12
    go_wp2
    go_ret; exact ⟨rfl, rfl⟩
  by_cases c2 : m = 2
  · subst c2
    clear c0 c1
    generalize refHas k 2 = bb at f2
    go_enter Tryz.func12, Tryz.ntmps12
    go_wp2
    go_ret; exact ⟨rfl, rfl⟩
  by_cases c3 : m = 3
  · subst c3
    clear c0 c1 c2
    generalize refHas k 3 = bb at f3
    go_enter Tryz.func12, Tryz.ntmps12
    go_wp2
    go_ret; exact ⟨rfl, rfl⟩
  by_cases c4 : m = 4
  · subst c4
    clear c0 c1 c2 c3
    generalize refHas k 4 = bb at f4
    go_enter Tryz.func12, Tryz.ntmps12
    go_wp2
    go_ret; exact ⟨rfl, rfl⟩
  by_cases c5 : m = 5
  · subst c5
    clear c0 c1 c2 c3 c4
    generalize refHas k 5 = bb at f5
    go_enter Tryz.func12, Tryz.ntmps12
    go_wp2
    go_ret; exact ⟨rfl, rfl⟩
  have hf : refHas k m = false := by unfold refHas; simp [c0, c1, c2, c3, c4, c5]
  rw [hf]; clear hf
  have g0 : (m == 0) = false := by simpa using c0
  have g1 : (m == 1) = false := by simpa using c1
  have g2 : (m == 2) = false := by simpa using c2
  have g3 : (m == 3) = false := by simpa using c3
  have g4 : (m == 4) = false := by simpa using c4
  have g5 : (m == 5) = false := by simpa using c5
  clear c0 c1 c2 c3 c4 c5 f0 f1 f2 f3 f4 f5
  go_enter Tryz.func12, Tryz.ntmps12
  go_wp2
  go_ret
  exact ⟨rfl, rfl⟩

set_option maxRecDepth 100000 in
set_option maxHeartbeats 1000000 in
theorem has_any (k m : Int) (w : World) : Calls Tryz.prog 5 #[.int .i64 k, .int .i64 m] w fun e w' => e = .returned (.bool (refHas k m)) ∧ Below w.heap.size w w' := by
  have HK := Lib.hid (ofKind_any k)
  have HA : Hid (∀ u w, Kd k u → Calls Tryz.prog 12 #[u, .int .i64 m] w fun e w' => e = .returned (.bool (refHas k m)) ∧ w' = w) := fun u w hu => answers_any k m u hu w
  generalize refHas k m = bb at HA
  go_enter Tryz.func5, Tryz.ntmps5
  go_wp2_with fail
  refine (HK.out _).mono ?_
  rintro e w1 ⟨u, rfl, hx, b1⟩
  go_wp2_with fail
  refine (HA.out u _ hx).mono ?_
  rintro e w2 ⟨rfl, rfl⟩
  go_wp2
  go_ret
  exact ⟨rfl, b1⟩

end Go.Proofs.YtgpbnmlcfimnnaaGreatDoor
