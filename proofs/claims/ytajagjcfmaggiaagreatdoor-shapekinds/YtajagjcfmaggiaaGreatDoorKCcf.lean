/- The package's Has at any two numbers: the document's answer; no condition. -/
import Derived.Test.YtajagjcfmaggiaaGreatDoorKCce
namespace Go.Proofs.YtajagjcfmaggiaaGreatDoor
open Go.RowKit

theorem faceA0 {k : Int} {u : Value} (hk : Kd k u) : ∃ x, ∀ w, (Instr.typeAssert u 20 204 true).run Tryz.prog w = .ok (.tuple #[x, .bool (refHas k 0)]) w := by
  rcases hk.cases with ⟨h0, rfl⟩ | ⟨rfl, a, rfl⟩ | ⟨rfl, a, rfl⟩ | ⟨rfl, a, rfl⟩ | ⟨rfl, a, rfl⟩ | ⟨rfl, a, rfl⟩ | ⟨rfl, a, rfl⟩ | ⟨rfl, a, rfl⟩ | ⟨rfl, a, rfl⟩ | ⟨rfl, a, b, rfl, ha, hb⟩ | ⟨rfl, c, a, rfl⟩ | ⟨rfl, a, rfl⟩ | ⟨rfl, rfl⟩ | ⟨rfl, rfl⟩
  · have : refHas k 0 = false := by unfold refHas; simp; omega
    rw [this]; exact ⟨.nilIface, fun w => assert_nil Tryz.underlying204 (by kernel_rfl)⟩
  · exact ⟨.nilIface, fun w => run_typeAssert_lacksB Tryz.underlying204 (by kernel_rfl) (by kernel_rfl) _ _ w⟩
  · exact ⟨.nilIface, fun w => run_typeAssert_lacksB Tryz.underlying204 (by kernel_rfl) (by kernel_rfl) _ _ w⟩
  · exact ⟨.nilIface, fun w => run_typeAssert_lacksB Tryz.underlying204 (by kernel_rfl) (by kernel_rfl) _ _ w⟩
  · exact ⟨_, fun w => run_typeAssert_hasB Tryz.underlying204 (by kernel_rfl) _ _ w⟩
  · exact ⟨_, fun w => run_typeAssert_hasB Tryz.underlying204 (by kernel_rfl) _ _ w⟩
  · exact ⟨.nilIface, fun w => run_typeAssert_lacksB Tryz.underlying204 (by kernel_rfl) (by kernel_rfl) _ _ w⟩
  · exact ⟨_, fun w => run_typeAssert_hasB Tryz.underlying204 (by kernel_rfl) _ _ w⟩
  · exact ⟨_, fun w => run_typeAssert_hasB Tryz.underlying204 (by kernel_rfl) _ _ w⟩
  · exact ⟨_, fun w => run_typeAssert_hasB Tryz.underlying204 (by kernel_rfl) _ _ w⟩
  · exact ⟨.nilIface, fun w => run_typeAssert_lacksB Tryz.underlying204 (by kernel_rfl) (by kernel_rfl) _ _ w⟩
  · exact ⟨_, fun w => run_typeAssert_hasB Tryz.underlying204 (by kernel_rfl) _ _ w⟩
  · exact ⟨_, fun w => run_typeAssert_hasB Tryz.underlying204 (by kernel_rfl) _ _ w⟩
  · exact ⟨.nilIface, fun w => run_typeAssert_lacksB Tryz.underlying204 (by kernel_rfl) (by kernel_rfl) _ _ w⟩
theorem faceA1 {k : Int} {u : Value} (hk : Kd k u) : ∃ x, ∀ w, (Instr.typeAssert u 20 98 true).run Tryz.prog w = .ok (.tuple #[x, .bool (refHas k 1)]) w := by
  rcases hk.cases with ⟨h0, rfl⟩ | ⟨rfl, a, rfl⟩ | ⟨rfl, a, rfl⟩ | ⟨rfl, a, rfl⟩ | ⟨rfl, a, rfl⟩ | ⟨rfl, a, rfl⟩ | ⟨rfl, a, rfl⟩ | ⟨rfl, a, rfl⟩ | ⟨rfl, a, rfl⟩ | ⟨rfl, a, b, rfl, ha, hb⟩ | ⟨rfl, c, a, rfl⟩ | ⟨rfl, a, rfl⟩ | ⟨rfl, rfl⟩ | ⟨rfl, rfl⟩
  · have : refHas k 1 = false := by unfold refHas; simp; omega
    rw [this]; exact ⟨.nilIface, fun w => assert_nil Tryz.underlying98 (by kernel_rfl)⟩
  · exact ⟨.nilIface, fun w => run_typeAssert_lacksB Tryz.underlying98 (by kernel_rfl) (by kernel_rfl) _ _ w⟩
  · exact ⟨_, fun w => run_typeAssert_hasB Tryz.underlying98 (by kernel_rfl) _ _ w⟩
  · exact ⟨.nilIface, fun w => run_typeAssert_lacksB Tryz.underlying98 (by kernel_rfl) (by kernel_rfl) _ _ w⟩
  · exact ⟨.nilIface, fun w => run_typeAssert_lacksB Tryz.underlying98 (by kernel_rfl) (by kernel_rfl) _ _ w⟩
  · exact ⟨_, fun w => run_typeAssert_hasB Tryz.underlying98 (by kernel_rfl) _ _ w⟩
  · exact ⟨.nilIface, fun w => run_typeAssert_lacksB Tryz.underlying98 (by kernel_rfl) (by kernel_rfl) _ _ w⟩
  · exact ⟨.nilIface, fun w => run_typeAssert_lacksB Tryz.underlying98 (by kernel_rfl) (by kernel_rfl) _ _ w⟩
  · exact ⟨.nilIface, fun w => run_typeAssert_lacksB Tryz.underlying98 (by kernel_rfl) (by kernel_rfl) _ _ w⟩
  · exact ⟨.nilIface, fun w => run_typeAssert_lacksB Tryz.underlying98 (by kernel_rfl) (by kernel_rfl) _ _ w⟩
  · exact ⟨_, fun w => run_typeAssert_hasB Tryz.underlying98 (by kernel_rfl) _ _ w⟩
  · exact ⟨.nilIface, fun w => run_typeAssert_lacksB Tryz.underlying98 (by kernel_rfl) (by kernel_rfl) _ _ w⟩
  · exact ⟨.nilIface, fun w => run_typeAssert_lacksB Tryz.underlying98 (by kernel_rfl) (by kernel_rfl) _ _ w⟩
  · exact ⟨.nilIface, fun w => run_typeAssert_lacksB Tryz.underlying98 (by kernel_rfl) (by kernel_rfl) _ _ w⟩
theorem faceA2 {k : Int} {u : Value} (hk : Kd k u) : ∃ x, ∀ w, (Instr.typeAssert u 20 218 true).run Tryz.prog w = .ok (.tuple #[x, .bool (refHas k 2)]) w := by
  rcases hk.cases with ⟨h0, rfl⟩ | ⟨rfl, a, rfl⟩ | ⟨rfl, a, rfl⟩ | ⟨rfl, a, rfl⟩ | ⟨rfl, a, rfl⟩ | ⟨rfl, a, rfl⟩ | ⟨rfl, a, rfl⟩ | ⟨rfl, a, rfl⟩ | ⟨rfl, a, rfl⟩ | ⟨rfl, a, b, rfl, ha, hb⟩ | ⟨rfl, c, a, rfl⟩ | ⟨rfl, a, rfl⟩ | ⟨rfl, rfl⟩ | ⟨rfl, rfl⟩
  · have : refHas k 2 = false := by unfold refHas; simp; omega
    rw [this]; exact ⟨.nilIface, fun w => assert_nil Tryz.underlying218 (by kernel_rfl)⟩
  · exact ⟨.nilIface, fun w => run_typeAssert_lacksB Tryz.underlying218 (by kernel_rfl) (by kernel_rfl) _ _ w⟩
  · exact ⟨.nilIface, fun w => run_typeAssert_lacksB Tryz.underlying218 (by kernel_rfl) (by kernel_rfl) _ _ w⟩
  · exact ⟨.nilIface, fun w => run_typeAssert_lacksB Tryz.underlying218 (by kernel_rfl) (by kernel_rfl) _ _ w⟩
  · exact ⟨.nilIface, fun w => run_typeAssert_lacksB Tryz.underlying218 (by kernel_rfl) (by kernel_rfl) _ _ w⟩
  · exact ⟨.nilIface, fun w => run_typeAssert_lacksB Tryz.underlying218 (by kernel_rfl) (by kernel_rfl) _ _ w⟩
  · exact ⟨.nilIface, fun w => run_typeAssert_lacksB Tryz.underlying218 (by kernel_rfl) (by kernel_rfl) _ _ w⟩
  · exact ⟨.nilIface, fun w => run_typeAssert_lacksB Tryz.underlying218 (by kernel_rfl) (by kernel_rfl) _ _ w⟩
  · exact ⟨.nilIface, fun w => run_typeAssert_lacksB Tryz.underlying218 (by kernel_rfl) (by kernel_rfl) _ _ w⟩
  · exact ⟨.nilIface, fun w => run_typeAssert_lacksB Tryz.underlying218 (by kernel_rfl) (by kernel_rfl) _ _ w⟩
  · exact ⟨_, fun w => run_typeAssert_hasB Tryz.underlying218 (by kernel_rfl) _ _ w⟩
  · exact ⟨_, fun w => run_typeAssert_hasB Tryz.underlying218 (by kernel_rfl) _ _ w⟩
  · exact ⟨_, fun w => run_typeAssert_hasB Tryz.underlying218 (by kernel_rfl) _ _ w⟩
  · exact ⟨.nilIface, fun w => run_typeAssert_lacksB Tryz.underlying218 (by kernel_rfl) (by kernel_rfl) _ _ w⟩
theorem faceA3 {k : Int} {u : Value} (hk : Kd k u) : ∃ x, ∀ w, (Instr.typeAssert u 20 196 true).run Tryz.prog w = .ok (.tuple #[x, .bool (refHas k 3)]) w := by
  rcases hk.cases with ⟨h0, rfl⟩ | ⟨rfl, a, rfl⟩ | ⟨rfl, a, rfl⟩ | ⟨rfl, a, rfl⟩ | ⟨rfl, a, rfl⟩ | ⟨rfl, a, rfl⟩ | ⟨rfl, a, rfl⟩ | ⟨rfl, a, rfl⟩ | ⟨rfl, a, rfl⟩ | ⟨rfl, a, b, rfl, ha, hb⟩ | ⟨rfl, c, a, rfl⟩ | ⟨rfl, a, rfl⟩ | ⟨rfl, rfl⟩ | ⟨rfl, rfl⟩
  · have : refHas k 3 = false := by unfold refHas; simp; omega
    rw [this]; exact ⟨.nilIface, fun w => assert_nil Tryz.underlying196 (by kernel_rfl)⟩
  · exact ⟨.nilIface, fun w => run_typeAssert_lacksB Tryz.underlying196 (by kernel_rfl) (by kernel_rfl) _ _ w⟩
  · exact ⟨.nilIface, fun w => run_typeAssert_lacksB Tryz.underlying196 (by kernel_rfl) (by kernel_rfl) _ _ w⟩
  · exact ⟨.nilIface, fun w => run_typeAssert_lacksB Tryz.underlying196 (by kernel_rfl) (by kernel_rfl) _ _ w⟩
  · exact ⟨.nilIface, fun w => run_typeAssert_lacksB Tryz.underlying196 (by kernel_rfl) (by kernel_rfl) _ _ w⟩
  · exact ⟨.nilIface, fun w => run_typeAssert_lacksB Tryz.underlying196 (by kernel_rfl) (by kernel_rfl) _ _ w⟩
  · exact ⟨.nilIface, fun w => run_typeAssert_lacksB Tryz.underlying196 (by kernel_rfl) (by kernel_rfl) _ _ w⟩
  · exact ⟨.nilIface, fun w => run_typeAssert_lacksB Tryz.underlying196 (by kernel_rfl) (by kernel_rfl) _ _ w⟩
  · exact ⟨.nilIface, fun w => run_typeAssert_lacksB Tryz.underlying196 (by kernel_rfl) (by kernel_rfl) _ _ w⟩
  · exact ⟨.nilIface, fun w => run_typeAssert_lacksB Tryz.underlying196 (by kernel_rfl) (by kernel_rfl) _ _ w⟩
  · exact ⟨.nilIface, fun w => run_typeAssert_lacksB Tryz.underlying196 (by kernel_rfl) (by kernel_rfl) _ _ w⟩
  · exact ⟨_, fun w => run_typeAssert_hasB Tryz.underlying196 (by kernel_rfl) _ _ w⟩
  · exact ⟨_, fun w => run_typeAssert_hasB Tryz.underlying196 (by kernel_rfl) _ _ w⟩
  · exact ⟨.nilIface, fun w => run_typeAssert_lacksB Tryz.underlying196 (by kernel_rfl) (by kernel_rfl) _ _ w⟩
theorem faceA4 {k : Int} {u : Value} (hk : Kd k u) : ∃ x, ∀ w, (Instr.typeAssert u 20 222 true).run Tryz.prog w = .ok (.tuple #[x, .bool (refHas k 4)]) w := by
  rcases hk.cases with ⟨h0, rfl⟩ | ⟨rfl, a, rfl⟩ | ⟨rfl, a, rfl⟩ | ⟨rfl, a, rfl⟩ | ⟨rfl, a, rfl⟩ | ⟨rfl, a, rfl⟩ | ⟨rfl, a, rfl⟩ | ⟨rfl, a, rfl⟩ | ⟨rfl, a, rfl⟩ | ⟨rfl, a, b, rfl, ha, hb⟩ | ⟨rfl, c, a, rfl⟩ | ⟨rfl, a, rfl⟩ | ⟨rfl, rfl⟩ | ⟨rfl, rfl⟩
  · have : refHas k 4 = false := by unfold refHas; simp; omega
    rw [this]; exact ⟨.nilIface, fun w => assert_nil Tryz.underlying222 (by kernel_rfl)⟩
  · exact ⟨_, fun w => run_typeAssert_hasB Tryz.underlying222 (by kernel_rfl) _ _ w⟩
  · exact ⟨_, fun w => run_typeAssert_hasB Tryz.underlying222 (by kernel_rfl) _ _ w⟩
  · exact ⟨_, fun w => run_typeAssert_hasB Tryz.underlying222 (by kernel_rfl) _ _ w⟩
  · exact ⟨_, fun w => run_typeAssert_hasB Tryz.underlying222 (by kernel_rfl) _ _ w⟩
  · exact ⟨_, fun w => run_typeAssert_hasB Tryz.underlying222 (by kernel_rfl) _ _ w⟩
  · exact ⟨.nilIface, fun w => run_typeAssert_lacksB Tryz.underlying222 (by kernel_rfl) (by kernel_rfl) _ _ w⟩
  · exact ⟨.nilIface, fun w => run_typeAssert_lacksB Tryz.underlying222 (by kernel_rfl) (by kernel_rfl) _ _ w⟩
  · exact ⟨.nilIface, fun w => run_typeAssert_lacksB Tryz.underlying222 (by kernel_rfl) (by kernel_rfl) _ _ w⟩
  · exact ⟨.nilIface, fun w => run_typeAssert_lacksB Tryz.underlying222 (by kernel_rfl) (by kernel_rfl) _ _ w⟩
  · exact ⟨.nilIface, fun w => run_typeAssert_lacksB Tryz.underlying222 (by kernel_rfl) (by kernel_rfl) _ _ w⟩
  · exact ⟨.nilIface, fun w => run_typeAssert_lacksB Tryz.underlying222 (by kernel_rfl) (by kernel_rfl) _ _ w⟩
  · exact ⟨.nilIface, fun w => run_typeAssert_lacksB Tryz.underlying222 (by kernel_rfl) (by kernel_rfl) _ _ w⟩
  · exact ⟨.nilIface, fun w => run_typeAssert_lacksB Tryz.underlying222 (by kernel_rfl) (by kernel_rfl) _ _ w⟩
theorem faceA5 {k : Int} {u : Value} (hk : Kd k u) : ∃ x, ∀ w, (Instr.typeAssert u 20 136 true).run Tryz.prog w = .ok (.tuple #[x, .bool (refHas k 5)]) w := by
  rcases hk.cases with ⟨h0, rfl⟩ | ⟨rfl, a, rfl⟩ | ⟨rfl, a, rfl⟩ | ⟨rfl, a, rfl⟩ | ⟨rfl, a, rfl⟩ | ⟨rfl, a, rfl⟩ | ⟨rfl, a, rfl⟩ | ⟨rfl, a, rfl⟩ | ⟨rfl, a, rfl⟩ | ⟨rfl, a, b, rfl, ha, hb⟩ | ⟨rfl, c, a, rfl⟩ | ⟨rfl, a, rfl⟩ | ⟨rfl, rfl⟩ | ⟨rfl, rfl⟩
  · have : refHas k 5 = false := by unfold refHas; simp; omega
    rw [this]; exact ⟨.nilIface, fun w => assert_nil Tryz.underlying136 (by kernel_rfl)⟩
  · exact ⟨_, fun w => run_typeAssert_hasB Tryz.underlying136 (by kernel_rfl) _ _ w⟩
  · exact ⟨.nilIface, fun w => run_typeAssert_lacksB Tryz.underlying136 (by kernel_rfl) (by kernel_rfl) _ _ w⟩
  · exact ⟨_, fun w => run_typeAssert_hasB Tryz.underlying136 (by kernel_rfl) _ _ w⟩
  · exact ⟨.nilIface, fun w => run_typeAssert_lacksB Tryz.underlying136 (by kernel_rfl) (by kernel_rfl) _ _ w⟩
  · exact ⟨.nilIface, fun w => run_typeAssert_lacksB Tryz.underlying136 (by kernel_rfl) (by kernel_rfl) _ _ w⟩
  · exact ⟨.nilIface, fun w => run_typeAssert_lacksB Tryz.underlying136 (by kernel_rfl) (by kernel_rfl) _ _ w⟩
  · exact ⟨.nilIface, fun w => run_typeAssert_lacksB Tryz.underlying136 (by kernel_rfl) (by kernel_rfl) _ _ w⟩
  · exact ⟨.nilIface, fun w => run_typeAssert_lacksB Tryz.underlying136 (by kernel_rfl) (by kernel_rfl) _ _ w⟩
  · exact ⟨.nilIface, fun w => run_typeAssert_lacksB Tryz.underlying136 (by kernel_rfl) (by kernel_rfl) _ _ w⟩
  · exact ⟨.nilIface, fun w => run_typeAssert_lacksB Tryz.underlying136 (by kernel_rfl) (by kernel_rfl) _ _ w⟩
  · exact ⟨.nilIface, fun w => run_typeAssert_lacksB Tryz.underlying136 (by kernel_rfl) (by kernel_rfl) _ _ w⟩
  · exact ⟨.nilIface, fun w => run_typeAssert_lacksB Tryz.underlying136 (by kernel_rfl) (by kernel_rfl) _ _ w⟩
  · exact ⟨.nilIface, fun w => run_typeAssert_lacksB Tryz.underlying136 (by kernel_rfl) (by kernel_rfl) _ _ w⟩

set_option maxHeartbeats 400000 in
theorem answers_any (k m : Int) (u : Value) (hk : Kd k u) (w : World) :
    Calls Tryz.prog 142 #[u, .int .i64 m] w fun e w' => e = .returned (.bool (refHas k m)) ∧ w' = w := by
  obtain ⟨x0, f0⟩ := faceA0 hk
  obtain ⟨x1, f1⟩ := faceA1 hk
  obtain ⟨x2, f2⟩ := faceA2 hk
  obtain ⟨x3, f3⟩ := faceA3 hk
  obtain ⟨x4, f4⟩ := faceA4 hk
  obtain ⟨x5, f5⟩ := faceA5 hk
  clear hk
  by_cases c0 : m = 0
  · subst c0
    generalize refHas k 0 = bb at f0
    go_enter Tryz.func142, Tryz.ntmps142
    go_wp2
    go_ret; exact ⟨rfl, rfl⟩
  by_cases c1 : m = 1
  · subst c1
    clear c0
    generalize refHas k 1 = bb at f1
    go_enter Tryz.func142, Tryz.ntmps142
    go_wp2
    go_ret; exact ⟨rfl, rfl⟩
  by_cases c2 : m = 2
  · subst c2
    clear c0 c1
    generalize refHas k 2 = bb at f2
    go_enter Tryz.func142, Tryz.ntmps142
    go_wp2
    go_ret; exact ⟨rfl, rfl⟩
  by_cases c3 : m = 3
  · subst c3
    clear c0 c1 c2
    generalize refHas k 3 = bb at f3
    go_enter Tryz.func142, Tryz.ntmps142
    go_wp2
    go_ret; exact ⟨rfl, rfl⟩
  by_cases c4 : m = 4
  · subst c4
    clear c0 c1 c2 c3
    generalize refHas k 4 = bb at f4
    go_enter Tryz.func142, Tryz.ntmps142
    go_wp2
    go_ret; exact ⟨rfl, rfl⟩
  by_cases c5 : m = 5
  · subst c5
    clear c0 c1 c2 c3 c4
    generalize refHas k 5 = bb at f5
    go_enter Tryz.func142, Tryz.ntmps142
    go_wp2
    go_ret; exact ⟨rfl, rfl⟩
  have hf : refHas k m = false := by unfold refHas; simp [c0, c1, c2, c3, c4, c5]
  rw [hf]; clear hf
  have g0 : (m == 0) = false := by simpa using c0
  have g1 : (m == 1) = false := by simpa using c1
  have g2 : (m == 2) = false := by simpa using c2
  have g3 : (m == 3) = false := by simpa using c3
  have g4 : (m == 4) = false := by simpa using c4
  have g5 : (m == 5) = false := by simpa using c5
  clear c0 c1 c2 c3 c4 c5 f0 f1 f2 f3 f4 f5
  go_enter Tryz.func142, Tryz.ntmps142
  go_wp2
  go_ret
  exact ⟨rfl, rfl⟩

set_option maxRecDepth 100000 in
set_option maxHeartbeats 1000000 in
theorem has_any (k m : Int) (w : World) : Calls Tryz.prog 141 #[.int .i64 k, .int .i64 m] w fun e w' => e = .returned (.bool (refHas k m)) ∧ Below w.heap.size w w' := by
  have HK := Lib.hid (ofKind_any k)
  have HA : Hid (∀ u w, Kd k u → Calls Tryz.prog 142 #[u, .int .i64 m] w fun e w' => e = .returned (.bool (refHas k m)) ∧ w' = w) := fun u w hu => answers_any k m u hu w
  generalize refHas k m = bb at HA
  go_enter Tryz.func141, Tryz.ntmps141
  go_wp2_with fail
  refine (HK.out _).mono ?_
  rintro e w1 ⟨u, rfl, hx, b1⟩
  go_wp2_with fail
  refine (HA.out u _ hx).mono ?_
  rintro e w2 ⟨rfl, rfl⟩
  go_wp2
  go_ret
  exact ⟨rfl, b1⟩

theorem isKind_any (k : Int) (w : World) : Calls Tryz.prog 139 #[.int .i64 k] w fun e w' => e = .returned (.bool (decide (0 ≤ k ∧ k < 14))) ∧ w' = w := by
  by_cases h0 : 0 ≤ k
  · by_cases h1 : k < 14
    · rw [decide_eq_true ⟨h0, h1⟩]
      go_enter Tryz.func139, Tryz.ntmps139
      go_wp2
      go_ret
      exact ⟨rfl, rfl⟩
    · rw [decide_eq_false (by omega)]
      go_enter Tryz.func139, Tryz.ntmps139
      go_wp2
      go_ret
      exact ⟨rfl, rfl⟩
  · rw [decide_eq_false (by omega)]
    go_enter Tryz.func139, Tryz.ntmps139
    go_wp2
    go_ret
    exact ⟨rfl, rfl⟩

theorem infoInt : (Tryz.prog.info? 3).map (fun i => (i.zero, i.size, i.bytes)) = some (some (.int .i64 0), 1, 8) := by kernel_rfl
theorem infoInt_parts : ∃ i0, Tryz.prog.info? 3 = some i0 ∧ i0.zero = some (.int .i64 0) ∧ i0.size = 1 ∧ i0.bytes = 8 := by
  have h := infoInt
  cases hi : Tryz.prog.info? 3 with
  | none => rw [hi] at h; cases h
  | some i =>
    rw [hi] at h
    simp only [Option.map_some, Option.some.injEq, Prod.mk.injEq] at h
    exact ⟨i, rfl, h.1, h.2.1, h.2.2⟩
/-- The numbers below j whose bit is set. -/
def mset (M : Nat) (j : Nat) : List Int := ((List.range j).filter fun i => M / 2 ^ i % 2 == 1).map Int.ofNat
theorem mset_yes (M j : Nat) (h : M / 2 ^ j % 2 = 1) : (mset M (j + 1)).map (Value.int .i64) = (mset M j).map (Value.int .i64) ++ [.int .i64 (j : Int)] := by
  simp [mset, List.range_succ, List.filter_append, h]
theorem mset_no (M j : Nat) (h : M / 2 ^ j % 2 ≠ 1) : mset M (j + 1) = mset M j := by
  simp [mset, List.range_succ, List.filter_append, h]
theorem mset_len (M j : Nat) : (mset M j).length ≤ j := by
  unfold mset
  rw [List.length_map]
  exact Nat.le_trans (List.length_filter_le _ _) (by simp)
theorem mset_len_yes (M j : Nat) (h : M / 2 ^ j % 2 = 1) : (mset M (j + 1)).length = (mset M j).length + 1 := by
  have := congrArg List.length (mset_yes M j h)
  simpa using this
theorem and1 (M j : Nat) (hM : M < 256) : bits .and .u8 ((M : Int) / 2 ^ j) 1 = ((M / 2 ^ j % 2 : Nat) : Int) := by
  have e : ((M : Int) / 2 ^ j) = ((M / 2 ^ j : Nat) : Int) := by norm_cast
  have hl : M / 2 ^ j ≤ M := Nat.div_le_self _ _
  rw [e, show (1 : Int) = ((1 : Nat) : Int) from rfl, u8_and_nat _ _ (by omega) (by decide), Nat.and_one_is_mod]
/-- The bits of an interface's methods. -/
theorem mbits_mset (f : Int) : ∃ M : Nat, mbits f = M ∧ M < 256 ∧ mset M 6 = mths f := by
  by_cases h : f < 0 ∨ 9 < f
  · refine ⟨0, ?_, by decide, ?_⟩
    · unfold mbits
      rw [if_neg (show ¬ f = 0 by omega)]
      rw [if_neg (show ¬ f = 1 by omega)]
      rw [if_neg (show ¬ f = 2 by omega)]
      rw [if_neg (show ¬ f = 3 by omega)]
      rw [if_neg (show ¬ f = 4 by omega)]
      rw [if_neg (show ¬ f = 5 by omega)]
      rw [if_neg (show ¬ f = 6 by omega)]
      rw [if_neg (show ¬ f = 7 by omega)]
      rw [if_neg (show ¬ f = 8 by omega)]
      rw [if_neg (show ¬ f = 9 by omega)]
      rfl
    · rw [mths_no f h]; decide
  have hk : f = 0 ∨ f = 1 ∨ f = 2 ∨ f = 3 ∨ f = 4 ∨ f = 5 ∨ f = 6 ∨ f = 7 ∨ f = 8 ∨ f = 9 := by omega
  rcases hk with rfl | rfl | rfl | rfl | rfl | rfl | rfl | rfl | rfl | rfl
  · exact ⟨1, by decide, by decide, by decide⟩
  · exact ⟨2, by decide, by decide, by decide⟩
  · exact ⟨4, by decide, by decide, by decide⟩
  · exact ⟨8, by decide, by decide, by decide⟩
  · exact ⟨16, by decide, by decide, by decide⟩
  · exact ⟨32, by decide, by decide, by decide⟩
  · exact ⟨3, by decide, by decide, by decide⟩
  · exact ⟨17, by decide, by decide, by decide⟩
  · exact ⟨48, by decide, by decide, by decide⟩
  · exact ⟨19, by decide, by decide, by decide⟩
end Go.Proofs.YtajagjcfmaggiaaGreatDoor
