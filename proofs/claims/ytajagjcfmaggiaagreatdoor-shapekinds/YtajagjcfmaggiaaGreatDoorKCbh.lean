/- What each question of the package answers of a value of kind k: of a type whether the kind has it, of an interface whether the kind has all its methods; no condition. -/
import Derived.Test.YtajagjcfmaggiaaGreatDoorKCaa
namespace Go.Proofs.YtajagjcfmaggiaaGreatDoor
open Go.RowKit

/-- The question that function f asks answers p of a kind. -/
def Asks (f : Nat) (p : Int → Bool) : Prop := ∀ (k : Int) (u : Value) (w : World), Kd k u → Calls Tryz.prog f #[.agg #[], u] w fun e w' => e = .returned (.bool (p k)) ∧ Below w.heap.size w w'

theorem kd_no {k : Int} (h : k < 1 ∨ 13 < k) (j : Int) (h1 : 1 ≤ j) (h2 : j ≤ 13) : (k == j) = false := by simp; omega
theorem impl_no {k : Int} (h : k < 1 ∨ 13 < k) (f : Int) : impl k f = false := by
  unfold impl
  by_cases h0 : 0 < k
  · have : ¬ k < 14 := by omega
    simp [this]
  · simp [h0]

set_option maxRecDepth 100000 in
set_option maxHeartbeats 1000000 in
theorem face0_walk (u x : Value) (b : Bool) (w : World) (h : ∀ w, (Instr.typeAssert u 20 204 true).run Tryz.prog w = .ok (.tuple #[x, .bool b]) w) :
    Calls Tryz.prog 189 #[.agg #[], u] w fun e w' => e = .returned (.bool b) ∧ Below w.heap.size w w' := by
  go_enter Tryz.func189, Tryz.ntmps189
  go_wp2
  go_ret
  exact ⟨rfl, below1 w _⟩
theorem face0_asks : Asks 189 (fun k => impl k 0) := by
  intro k u w hk
  rcases hk.cases with ⟨h0, rfl⟩ | ⟨rfl, a, rfl⟩ | ⟨rfl, a, rfl⟩ | ⟨rfl, a, rfl⟩ | ⟨rfl, a, rfl⟩ | ⟨rfl, a, rfl⟩ | ⟨rfl, a, rfl⟩ | ⟨rfl, a, rfl⟩ | ⟨rfl, a, rfl⟩ | ⟨rfl, a, b, rfl, ha, hb⟩ | ⟨rfl, c, a, rfl⟩ | ⟨rfl, a, rfl⟩ | ⟨rfl, rfl⟩ | ⟨rfl, rfl⟩
  · simp only [impl_no h0]; exact face0_walk _ .nilIface false w (fun w => assert_nil Tryz.underlying204 (by kernel_rfl))
  · exact face0_walk _ .nilIface false w (fun w => run_typeAssert_lacksB Tryz.underlying204 (by kernel_rfl) (by kernel_rfl) _ _ w)
  · exact face0_walk _ .nilIface false w (fun w => run_typeAssert_lacksB Tryz.underlying204 (by kernel_rfl) (by kernel_rfl) _ _ w)
  · exact face0_walk _ .nilIface false w (fun w => run_typeAssert_lacksB Tryz.underlying204 (by kernel_rfl) (by kernel_rfl) _ _ w)
  · exact face0_walk _ (.iface 101 a) true w (fun w => run_typeAssert_hasB Tryz.underlying204 (by kernel_rfl) _ _ w)
  · exact face0_walk _ (.iface 143 a) true w (fun w => run_typeAssert_hasB Tryz.underlying204 (by kernel_rfl) _ _ w)
  · exact face0_walk _ .nilIface false w (fun w => run_typeAssert_lacksB Tryz.underlying204 (by kernel_rfl) (by kernel_rfl) _ _ w)
  · exact face0_walk _ (.iface 147 a) true w (fun w => run_typeAssert_hasB Tryz.underlying204 (by kernel_rfl) _ _ w)
  · exact face0_walk _ (.iface 149 a) true w (fun w => run_typeAssert_hasB Tryz.underlying204 (by kernel_rfl) _ _ w)
  · exact face0_walk _ (.iface 152 (.agg #[a, b])) true w (fun w => run_typeAssert_hasB Tryz.underlying204 (by kernel_rfl) _ _ w)
  · exact face0_walk _ .nilIface false w (fun w => run_typeAssert_lacksB Tryz.underlying204 (by kernel_rfl) (by kernel_rfl) _ _ w)
  · exact face0_walk _ (.iface 155 (.pointer (some a))) true w (fun w => run_typeAssert_hasB Tryz.underlying204 (by kernel_rfl) _ _ w)
  · exact face0_walk _ (.iface 155 (.pointer none)) true w (fun w => run_typeAssert_hasB Tryz.underlying204 (by kernel_rfl) _ _ w)
  · exact face0_walk _ .nilIface false w (fun w => run_typeAssert_lacksB Tryz.underlying204 (by kernel_rfl) (by kernel_rfl) _ _ w)

set_option maxRecDepth 100000 in
set_option maxHeartbeats 1000000 in
theorem face1_walk (u x : Value) (b : Bool) (w : World) (h : ∀ w, (Instr.typeAssert u 20 98 true).run Tryz.prog w = .ok (.tuple #[x, .bool b]) w) :
    Calls Tryz.prog 191 #[.agg #[], u] w fun e w' => e = .returned (.bool b) ∧ Below w.heap.size w w' := by
  go_enter Tryz.func191, Tryz.ntmps191
  go_wp2
  go_ret
  exact ⟨rfl, below1 w _⟩
theorem face1_asks : Asks 191 (fun k => impl k 1) := by
  intro k u w hk
  rcases hk.cases with ⟨h0, rfl⟩ | ⟨rfl, a, rfl⟩ | ⟨rfl, a, rfl⟩ | ⟨rfl, a, rfl⟩ | ⟨rfl, a, rfl⟩ | ⟨rfl, a, rfl⟩ | ⟨rfl, a, rfl⟩ | ⟨rfl, a, rfl⟩ | ⟨rfl, a, rfl⟩ | ⟨rfl, a, b, rfl, ha, hb⟩ | ⟨rfl, c, a, rfl⟩ | ⟨rfl, a, rfl⟩ | ⟨rfl, rfl⟩ | ⟨rfl, rfl⟩
  · simp only [impl_no h0]; exact face1_walk _ .nilIface false w (fun w => assert_nil Tryz.underlying98 (by kernel_rfl))
  · exact face1_walk _ .nilIface false w (fun w => run_typeAssert_lacksB Tryz.underlying98 (by kernel_rfl) (by kernel_rfl) _ _ w)
  · exact face1_walk _ (.iface 141 a) true w (fun w => run_typeAssert_hasB Tryz.underlying98 (by kernel_rfl) _ _ w)
  · exact face1_walk _ .nilIface false w (fun w => run_typeAssert_lacksB Tryz.underlying98 (by kernel_rfl) (by kernel_rfl) _ _ w)
  · exact face1_walk _ .nilIface false w (fun w => run_typeAssert_lacksB Tryz.underlying98 (by kernel_rfl) (by kernel_rfl) _ _ w)
  · exact face1_walk _ (.iface 143 a) true w (fun w => run_typeAssert_hasB Tryz.underlying98 (by kernel_rfl) _ _ w)
  · exact face1_walk _ .nilIface false w (fun w => run_typeAssert_lacksB Tryz.underlying98 (by kernel_rfl) (by kernel_rfl) _ _ w)
  · exact face1_walk _ .nilIface false w (fun w => run_typeAssert_lacksB Tryz.underlying98 (by kernel_rfl) (by kernel_rfl) _ _ w)
  · exact face1_walk _ .nilIface false w (fun w => run_typeAssert_lacksB Tryz.underlying98 (by kernel_rfl) (by kernel_rfl) _ _ w)
  · exact face1_walk _ .nilIface false w (fun w => run_typeAssert_lacksB Tryz.underlying98 (by kernel_rfl) (by kernel_rfl) _ _ w)
  · exact face1_walk _ (.iface 154 (.agg #[.int .i64 c, .string a])) true w (fun w => run_typeAssert_hasB Tryz.underlying98 (by kernel_rfl) _ _ w)
  · exact face1_walk _ .nilIface false w (fun w => run_typeAssert_lacksB Tryz.underlying98 (by kernel_rfl) (by kernel_rfl) _ _ w)
  · exact face1_walk _ .nilIface false w (fun w => run_typeAssert_lacksB Tryz.underlying98 (by kernel_rfl) (by kernel_rfl) _ _ w)
  · exact face1_walk _ .nilIface false w (fun w => run_typeAssert_lacksB Tryz.underlying98 (by kernel_rfl) (by kernel_rfl) _ _ w)

set_option maxRecDepth 100000 in
set_option maxHeartbeats 1000000 in
theorem face2_walk (u x : Value) (b : Bool) (w : World) (h : ∀ w, (Instr.typeAssert u 20 218 true).run Tryz.prog w = .ok (.tuple #[x, .bool b]) w) :
    Calls Tryz.prog 193 #[.agg #[], u] w fun e w' => e = .returned (.bool b) ∧ Below w.heap.size w w' := by
  go_enter Tryz.func193, Tryz.ntmps193
  go_wp2
  go_ret
  exact ⟨rfl, below1 w _⟩
theorem face2_asks : Asks 193 (fun k => impl k 2) := by
  intro k u w hk
  rcases hk.cases with ⟨h0, rfl⟩ | ⟨rfl, a, rfl⟩ | ⟨rfl, a, rfl⟩ | ⟨rfl, a, rfl⟩ | ⟨rfl, a, rfl⟩ | ⟨rfl, a, rfl⟩ | ⟨rfl, a, rfl⟩ | ⟨rfl, a, rfl⟩ | ⟨rfl, a, rfl⟩ | ⟨rfl, a, b, rfl, ha, hb⟩ | ⟨rfl, c, a, rfl⟩ | ⟨rfl, a, rfl⟩ | ⟨rfl, rfl⟩ | ⟨rfl, rfl⟩
  · simp only [impl_no h0]; exact face2_walk _ .nilIface false w (fun w => assert_nil Tryz.underlying218 (by kernel_rfl))
  · exact face2_walk _ .nilIface false w (fun w => run_typeAssert_lacksB Tryz.underlying218 (by kernel_rfl) (by kernel_rfl) _ _ w)
  · exact face2_walk _ .nilIface false w (fun w => run_typeAssert_lacksB Tryz.underlying218 (by kernel_rfl) (by kernel_rfl) _ _ w)
  · exact face2_walk _ .nilIface false w (fun w => run_typeAssert_lacksB Tryz.underlying218 (by kernel_rfl) (by kernel_rfl) _ _ w)
  · exact face2_walk _ .nilIface false w (fun w => run_typeAssert_lacksB Tryz.underlying218 (by kernel_rfl) (by kernel_rfl) _ _ w)
  · exact face2_walk _ .nilIface false w (fun w => run_typeAssert_lacksB Tryz.underlying218 (by kernel_rfl) (by kernel_rfl) _ _ w)
  · exact face2_walk _ .nilIface false w (fun w => run_typeAssert_lacksB Tryz.underlying218 (by kernel_rfl) (by kernel_rfl) _ _ w)
  · exact face2_walk _ .nilIface false w (fun w => run_typeAssert_lacksB Tryz.underlying218 (by kernel_rfl) (by kernel_rfl) _ _ w)
  · exact face2_walk _ .nilIface false w (fun w => run_typeAssert_lacksB Tryz.underlying218 (by kernel_rfl) (by kernel_rfl) _ _ w)
  · exact face2_walk _ .nilIface false w (fun w => run_typeAssert_lacksB Tryz.underlying218 (by kernel_rfl) (by kernel_rfl) _ _ w)
  · exact face2_walk _ (.iface 154 (.agg #[.int .i64 c, .string a])) true w (fun w => run_typeAssert_hasB Tryz.underlying218 (by kernel_rfl) _ _ w)
  · exact face2_walk _ (.iface 155 (.pointer (some a))) true w (fun w => run_typeAssert_hasB Tryz.underlying218 (by kernel_rfl) _ _ w)
  · exact face2_walk _ (.iface 155 (.pointer none)) true w (fun w => run_typeAssert_hasB Tryz.underlying218 (by kernel_rfl) _ _ w)
  · exact face2_walk _ .nilIface false w (fun w => run_typeAssert_lacksB Tryz.underlying218 (by kernel_rfl) (by kernel_rfl) _ _ w)

set_option maxRecDepth 100000 in
set_option maxHeartbeats 1000000 in
theorem face3_walk (u x : Value) (b : Bool) (w : World) (h : ∀ w, (Instr.typeAssert u 20 196 true).run Tryz.prog w = .ok (.tuple #[x, .bool b]) w) :
    Calls Tryz.prog 195 #[.agg #[], u] w fun e w' => e = .returned (.bool b) ∧ Below w.heap.size w w' := by
  go_enter Tryz.func195, Tryz.ntmps195
  go_wp2
  go_ret
  exact ⟨rfl, below1 w _⟩
theorem face3_asks : Asks 195 (fun k => impl k 3) := by
  intro k u w hk
  rcases hk.cases with ⟨h0, rfl⟩ | ⟨rfl, a, rfl⟩ | ⟨rfl, a, rfl⟩ | ⟨rfl, a, rfl⟩ | ⟨rfl, a, rfl⟩ | ⟨rfl, a, rfl⟩ | ⟨rfl, a, rfl⟩ | ⟨rfl, a, rfl⟩ | ⟨rfl, a, rfl⟩ | ⟨rfl, a, b, rfl, ha, hb⟩ | ⟨rfl, c, a, rfl⟩ | ⟨rfl, a, rfl⟩ | ⟨rfl, rfl⟩ | ⟨rfl, rfl⟩
  · simp only [impl_no h0]; exact face3_walk _ .nilIface false w (fun w => assert_nil Tryz.underlying196 (by kernel_rfl))
  · exact face3_walk _ .nilIface false w (fun w => run_typeAssert_lacksB Tryz.underlying196 (by kernel_rfl) (by kernel_rfl) _ _ w)
  · exact face3_walk _ .nilIface false w (fun w => run_typeAssert_lacksB Tryz.underlying196 (by kernel_rfl) (by kernel_rfl) _ _ w)
  · exact face3_walk _ .nilIface false w (fun w => run_typeAssert_lacksB Tryz.underlying196 (by kernel_rfl) (by kernel_rfl) _ _ w)
  · exact face3_walk _ .nilIface false w (fun w => run_typeAssert_lacksB Tryz.underlying196 (by kernel_rfl) (by kernel_rfl) _ _ w)
  · exact face3_walk _ .nilIface false w (fun w => run_typeAssert_lacksB Tryz.underlying196 (by kernel_rfl) (by kernel_rfl) _ _ w)
  · exact face3_walk _ .nilIface false w (fun w => run_typeAssert_lacksB Tryz.underlying196 (by kernel_rfl) (by kernel_rfl) _ _ w)
  · exact face3_walk _ .nilIface false w (fun w => run_typeAssert_lacksB Tryz.underlying196 (by kernel_rfl) (by kernel_rfl) _ _ w)
  · exact face3_walk _ .nilIface false w (fun w => run_typeAssert_lacksB Tryz.underlying196 (by kernel_rfl) (by kernel_rfl) _ _ w)
  · exact face3_walk _ .nilIface false w (fun w => run_typeAssert_lacksB Tryz.underlying196 (by kernel_rfl) (by kernel_rfl) _ _ w)
  · exact face3_walk _ .nilIface false w (fun w => run_typeAssert_lacksB Tryz.underlying196 (by kernel_rfl) (by kernel_rfl) _ _ w)
  · exact face3_walk _ (.iface 155 (.pointer (some a))) true w (fun w => run_typeAssert_hasB Tryz.underlying196 (by kernel_rfl) _ _ w)
  · exact face3_walk _ (.iface 155 (.pointer none)) true w (fun w => run_typeAssert_hasB Tryz.underlying196 (by kernel_rfl) _ _ w)
  · exact face3_walk _ .nilIface false w (fun w => run_typeAssert_lacksB Tryz.underlying196 (by kernel_rfl) (by kernel_rfl) _ _ w)

set_option maxRecDepth 100000 in
set_option maxHeartbeats 1000000 in
theorem face4_walk (u x : Value) (b : Bool) (w : World) (h : ∀ w, (Instr.typeAssert u 20 222 true).run Tryz.prog w = .ok (.tuple #[x, .bool b]) w) :
    Calls Tryz.prog 197 #[.agg #[], u] w fun e w' => e = .returned (.bool b) ∧ Below w.heap.size w w' := by
  go_enter Tryz.func197, Tryz.ntmps197
  go_wp2
  go_ret
  exact ⟨rfl, below1 w _⟩
theorem face4_asks : Asks 197 (fun k => impl k 4) := by
  intro k u w hk
  rcases hk.cases with ⟨h0, rfl⟩ | ⟨rfl, a, rfl⟩ | ⟨rfl, a, rfl⟩ | ⟨rfl, a, rfl⟩ | ⟨rfl, a, rfl⟩ | ⟨rfl, a, rfl⟩ | ⟨rfl, a, rfl⟩ | ⟨rfl, a, rfl⟩ | ⟨rfl, a, rfl⟩ | ⟨rfl, a, b, rfl, ha, hb⟩ | ⟨rfl, c, a, rfl⟩ | ⟨rfl, a, rfl⟩ | ⟨rfl, rfl⟩ | ⟨rfl, rfl⟩
  · simp only [impl_no h0]; exact face4_walk _ .nilIface false w (fun w => assert_nil Tryz.underlying222 (by kernel_rfl))
  · exact face4_walk _ (.iface 140 a) true w (fun w => run_typeAssert_hasB Tryz.underlying222 (by kernel_rfl) _ _ w)
  · exact face4_walk _ (.iface 141 a) true w (fun w => run_typeAssert_hasB Tryz.underlying222 (by kernel_rfl) _ _ w)
  · exact face4_walk _ (.iface 142 a) true w (fun w => run_typeAssert_hasB Tryz.underlying222 (by kernel_rfl) _ _ w)
  · exact face4_walk _ (.iface 101 a) true w (fun w => run_typeAssert_hasB Tryz.underlying222 (by kernel_rfl) _ _ w)
  · exact face4_walk _ (.iface 143 a) true w (fun w => run_typeAssert_hasB Tryz.underlying222 (by kernel_rfl) _ _ w)
  · exact face4_walk _ .nilIface false w (fun w => run_typeAssert_lacksB Tryz.underlying222 (by kernel_rfl) (by kernel_rfl) _ _ w)
  · exact face4_walk _ .nilIface false w (fun w => run_typeAssert_lacksB Tryz.underlying222 (by kernel_rfl) (by kernel_rfl) _ _ w)
  · exact face4_walk _ .nilIface false w (fun w => run_typeAssert_lacksB Tryz.underlying222 (by kernel_rfl) (by kernel_rfl) _ _ w)
  · exact face4_walk _ .nilIface false w (fun w => run_typeAssert_lacksB Tryz.underlying222 (by kernel_rfl) (by kernel_rfl) _ _ w)
  · exact face4_walk _ .nilIface false w (fun w => run_typeAssert_lacksB Tryz.underlying222 (by kernel_rfl) (by kernel_rfl) _ _ w)
  · exact face4_walk _ .nilIface false w (fun w => run_typeAssert_lacksB Tryz.underlying222 (by kernel_rfl) (by kernel_rfl) _ _ w)
  · exact face4_walk _ .nilIface false w (fun w => run_typeAssert_lacksB Tryz.underlying222 (by kernel_rfl) (by kernel_rfl) _ _ w)
  · exact face4_walk _ .nilIface false w (fun w => run_typeAssert_lacksB Tryz.underlying222 (by kernel_rfl) (by kernel_rfl) _ _ w)

set_option maxRecDepth 100000 in
set_option maxHeartbeats 1000000 in
theorem face5_walk (u x : Value) (b : Bool) (w : World) (h : ∀ w, (Instr.typeAssert u 20 136 true).run Tryz.prog w = .ok (.tuple #[x, .bool b]) w) :
    Calls Tryz.prog 199 #[.agg #[], u] w fun e w' => e = .returned (.bool b) ∧ Below w.heap.size w w' := by
  go_enter Tryz.func199, Tryz.ntmps199
  go_wp2
  go_ret
  exact ⟨rfl, below1 w _⟩
theorem face5_asks : Asks 199 (fun k => impl k 5) := by
  intro k u w hk
  rcases hk.cases with ⟨h0, rfl⟩ | ⟨rfl, a, rfl⟩ | ⟨rfl, a, rfl⟩ | ⟨rfl, a, rfl⟩ | ⟨rfl, a, rfl⟩ | ⟨rfl, a, rfl⟩ | ⟨rfl, a, rfl⟩ | ⟨rfl, a, rfl⟩ | ⟨rfl, a, rfl⟩ | ⟨rfl, a, b, rfl, ha, hb⟩ | ⟨rfl, c, a, rfl⟩ | ⟨rfl, a, rfl⟩ | ⟨rfl, rfl⟩ | ⟨rfl, rfl⟩
  · simp only [impl_no h0]; exact face5_walk _ .nilIface false w (fun w => assert_nil Tryz.underlying136 (by kernel_rfl))
  · exact face5_walk _ (.iface 140 a) true w (fun w => run_typeAssert_hasB Tryz.underlying136 (by kernel_rfl) _ _ w)
  · exact face5_walk _ .nilIface false w (fun w => run_typeAssert_lacksB Tryz.underlying136 (by kernel_rfl) (by kernel_rfl) _ _ w)
  · exact face5_walk _ (.iface 142 a) true w (fun w => run_typeAssert_hasB Tryz.underlying136 (by kernel_rfl) _ _ w)
  · exact face5_walk _ .nilIface false w (fun w => run_typeAssert_lacksB Tryz.underlying136 (by kernel_rfl) (by kernel_rfl) _ _ w)
  · exact face5_walk _ .nilIface false w (fun w => run_typeAssert_lacksB Tryz.underlying136 (by kernel_rfl) (by kernel_rfl) _ _ w)
  · exact face5_walk _ .nilIface false w (fun w => run_typeAssert_lacksB Tryz.underlying136 (by kernel_rfl) (by kernel_rfl) _ _ w)
  · exact face5_walk _ .nilIface false w (fun w => run_typeAssert_lacksB Tryz.underlying136 (by kernel_rfl) (by kernel_rfl) _ _ w)
  · exact face5_walk _ .nilIface false w (fun w => run_typeAssert_lacksB Tryz.underlying136 (by kernel_rfl) (by kernel_rfl) _ _ w)
  · exact face5_walk _ .nilIface false w (fun w => run_typeAssert_lacksB Tryz.underlying136 (by kernel_rfl) (by kernel_rfl) _ _ w)
  · exact face5_walk _ .nilIface false w (fun w => run_typeAssert_lacksB Tryz.underlying136 (by kernel_rfl) (by kernel_rfl) _ _ w)
  · exact face5_walk _ .nilIface false w (fun w => run_typeAssert_lacksB Tryz.underlying136 (by kernel_rfl) (by kernel_rfl) _ _ w)
  · exact face5_walk _ .nilIface false w (fun w => run_typeAssert_lacksB Tryz.underlying136 (by kernel_rfl) (by kernel_rfl) _ _ w)
  · exact face5_walk _ .nilIface false w (fun w => run_typeAssert_lacksB Tryz.underlying136 (by kernel_rfl) (by kernel_rfl) _ _ w)

set_option maxRecDepth 100000 in
set_option maxHeartbeats 1000000 in
theorem face6_walk (u x : Value) (b : Bool) (w : World) (h : ∀ w, (Instr.typeAssert u 20 253 true).run Tryz.prog w = .ok (.tuple #[x, .bool b]) w) :
    Calls Tryz.prog 201 #[.agg #[], u] w fun e w' => e = .returned (.bool b) ∧ Below w.heap.size w w' := by
  go_enter Tryz.func201, Tryz.ntmps201
  go_wp2
  go_ret
  exact ⟨rfl, below1 w _⟩
theorem face6_asks : Asks 201 (fun k => impl k 6) := by
  intro k u w hk
  rcases hk.cases with ⟨h0, rfl⟩ | ⟨rfl, a, rfl⟩ | ⟨rfl, a, rfl⟩ | ⟨rfl, a, rfl⟩ | ⟨rfl, a, rfl⟩ | ⟨rfl, a, rfl⟩ | ⟨rfl, a, rfl⟩ | ⟨rfl, a, rfl⟩ | ⟨rfl, a, rfl⟩ | ⟨rfl, a, b, rfl, ha, hb⟩ | ⟨rfl, c, a, rfl⟩ | ⟨rfl, a, rfl⟩ | ⟨rfl, rfl⟩ | ⟨rfl, rfl⟩
  · simp only [impl_no h0]; exact face6_walk _ .nilIface false w (fun w => assert_nil Tryz.underlying253 (by kernel_rfl))
  · exact face6_walk _ .nilIface false w (fun w => run_typeAssert_lacksB Tryz.underlying253 (by kernel_rfl) (by kernel_rfl) _ _ w)
  · exact face6_walk _ .nilIface false w (fun w => run_typeAssert_lacksB Tryz.underlying253 (by kernel_rfl) (by kernel_rfl) _ _ w)
  · exact face6_walk _ .nilIface false w (fun w => run_typeAssert_lacksB Tryz.underlying253 (by kernel_rfl) (by kernel_rfl) _ _ w)
  · exact face6_walk _ .nilIface false w (fun w => run_typeAssert_lacksB Tryz.underlying253 (by kernel_rfl) (by kernel_rfl) _ _ w)
  · exact face6_walk _ (.iface 143 a) true w (fun w => run_typeAssert_hasB Tryz.underlying253 (by kernel_rfl) _ _ w)
  · exact face6_walk _ .nilIface false w (fun w => run_typeAssert_lacksB Tryz.underlying253 (by kernel_rfl) (by kernel_rfl) _ _ w)
  · exact face6_walk _ .nilIface false w (fun w => run_typeAssert_lacksB Tryz.underlying253 (by kernel_rfl) (by kernel_rfl) _ _ w)
  · exact face6_walk _ .nilIface false w (fun w => run_typeAssert_lacksB Tryz.underlying253 (by kernel_rfl) (by kernel_rfl) _ _ w)
  · exact face6_walk _ .nilIface false w (fun w => run_typeAssert_lacksB Tryz.underlying253 (by kernel_rfl) (by kernel_rfl) _ _ w)
  · exact face6_walk _ .nilIface false w (fun w => run_typeAssert_lacksB Tryz.underlying253 (by kernel_rfl) (by kernel_rfl) _ _ w)
  · exact face6_walk _ .nilIface false w (fun w => run_typeAssert_lacksB Tryz.underlying253 (by kernel_rfl) (by kernel_rfl) _ _ w)
  · exact face6_walk _ .nilIface false w (fun w => run_typeAssert_lacksB Tryz.underlying253 (by kernel_rfl) (by kernel_rfl) _ _ w)
  · exact face6_walk _ .nilIface false w (fun w => run_typeAssert_lacksB Tryz.underlying253 (by kernel_rfl) (by kernel_rfl) _ _ w)

set_option maxRecDepth 100000 in
set_option maxHeartbeats 1000000 in
theorem face7_walk (u x : Value) (b : Bool) (w : World) (h : ∀ w, (Instr.typeAssert u 20 256 true).run Tryz.prog w = .ok (.tuple #[x, .bool b]) w) :
    Calls Tryz.prog 203 #[.agg #[], u] w fun e w' => e = .returned (.bool b) ∧ Below w.heap.size w w' := by
  go_enter Tryz.func203, Tryz.ntmps203
  go_wp2
  go_ret
  exact ⟨rfl, below1 w _⟩
theorem face7_asks : Asks 203 (fun k => impl k 7) := by
  intro k u w hk
  rcases hk.cases with ⟨h0, rfl⟩ | ⟨rfl, a, rfl⟩ | ⟨rfl, a, rfl⟩ | ⟨rfl, a, rfl⟩ | ⟨rfl, a, rfl⟩ | ⟨rfl, a, rfl⟩ | ⟨rfl, a, rfl⟩ | ⟨rfl, a, rfl⟩ | ⟨rfl, a, rfl⟩ | ⟨rfl, a, b, rfl, ha, hb⟩ | ⟨rfl, c, a, rfl⟩ | ⟨rfl, a, rfl⟩ | ⟨rfl, rfl⟩ | ⟨rfl, rfl⟩
  · simp only [impl_no h0]; exact face7_walk _ .nilIface false w (fun w => assert_nil Tryz.underlying256 (by kernel_rfl))
  · exact face7_walk _ .nilIface false w (fun w => run_typeAssert_lacksB Tryz.underlying256 (by kernel_rfl) (by kernel_rfl) _ _ w)
  · exact face7_walk _ .nilIface false w (fun w => run_typeAssert_lacksB Tryz.underlying256 (by kernel_rfl) (by kernel_rfl) _ _ w)
  · exact face7_walk _ .nilIface false w (fun w => run_typeAssert_lacksB Tryz.underlying256 (by kernel_rfl) (by kernel_rfl) _ _ w)
  · exact face7_walk _ (.iface 101 a) true w (fun w => run_typeAssert_hasB Tryz.underlying256 (by kernel_rfl) _ _ w)
  · exact face7_walk _ (.iface 143 a) true w (fun w => run_typeAssert_hasB Tryz.underlying256 (by kernel_rfl) _ _ w)
  · exact face7_walk _ .nilIface false w (fun w => run_typeAssert_lacksB Tryz.underlying256 (by kernel_rfl) (by kernel_rfl) _ _ w)
  · exact face7_walk _ .nilIface false w (fun w => run_typeAssert_lacksB Tryz.underlying256 (by kernel_rfl) (by kernel_rfl) _ _ w)
  · exact face7_walk _ .nilIface false w (fun w => run_typeAssert_lacksB Tryz.underlying256 (by kernel_rfl) (by kernel_rfl) _ _ w)
  · exact face7_walk _ .nilIface false w (fun w => run_typeAssert_lacksB Tryz.underlying256 (by kernel_rfl) (by kernel_rfl) _ _ w)
  · exact face7_walk _ .nilIface false w (fun w => run_typeAssert_lacksB Tryz.underlying256 (by kernel_rfl) (by kernel_rfl) _ _ w)
  · exact face7_walk _ .nilIface false w (fun w => run_typeAssert_lacksB Tryz.underlying256 (by kernel_rfl) (by kernel_rfl) _ _ w)
  · exact face7_walk _ .nilIface false w (fun w => run_typeAssert_lacksB Tryz.underlying256 (by kernel_rfl) (by kernel_rfl) _ _ w)
  · exact face7_walk _ .nilIface false w (fun w => run_typeAssert_lacksB Tryz.underlying256 (by kernel_rfl) (by kernel_rfl) _ _ w)

set_option maxRecDepth 100000 in
set_option maxHeartbeats 1000000 in
theorem face8_walk (u x : Value) (b : Bool) (w : World) (h : ∀ w, (Instr.typeAssert u 20 259 true).run Tryz.prog w = .ok (.tuple #[x, .bool b]) w) :
    Calls Tryz.prog 205 #[.agg #[], u] w fun e w' => e = .returned (.bool b) ∧ Below w.heap.size w w' := by
  go_enter Tryz.func205, Tryz.ntmps205
  go_wp2
  go_ret
  exact ⟨rfl, below1 w _⟩
theorem face8_asks : Asks 205 (fun k => impl k 8) := by
  intro k u w hk
  rcases hk.cases with ⟨h0, rfl⟩ | ⟨rfl, a, rfl⟩ | ⟨rfl, a, rfl⟩ | ⟨rfl, a, rfl⟩ | ⟨rfl, a, rfl⟩ | ⟨rfl, a, rfl⟩ | ⟨rfl, a, rfl⟩ | ⟨rfl, a, rfl⟩ | ⟨rfl, a, rfl⟩ | ⟨rfl, a, b, rfl, ha, hb⟩ | ⟨rfl, c, a, rfl⟩ | ⟨rfl, a, rfl⟩ | ⟨rfl, rfl⟩ | ⟨rfl, rfl⟩
  · simp only [impl_no h0]; exact face8_walk _ .nilIface false w (fun w => assert_nil Tryz.underlying259 (by kernel_rfl))
  · exact face8_walk _ (.iface 140 a) true w (fun w => run_typeAssert_hasB Tryz.underlying259 (by kernel_rfl) _ _ w)
  · exact face8_walk _ .nilIface false w (fun w => run_typeAssert_lacksB Tryz.underlying259 (by kernel_rfl) (by kernel_rfl) _ _ w)
  · exact face8_walk _ (.iface 142 a) true w (fun w => run_typeAssert_hasB Tryz.underlying259 (by kernel_rfl) _ _ w)
  · exact face8_walk _ .nilIface false w (fun w => run_typeAssert_lacksB Tryz.underlying259 (by kernel_rfl) (by kernel_rfl) _ _ w)
  · exact face8_walk _ .nilIface false w (fun w => run_typeAssert_lacksB Tryz.underlying259 (by kernel_rfl) (by kernel_rfl) _ _ w)
  · exact face8_walk _ .nilIface false w (fun w => run_typeAssert_lacksB Tryz.underlying259 (by kernel_rfl) (by kernel_rfl) _ _ w)
  · exact face8_walk _ .nilIface false w (fun w => run_typeAssert_lacksB Tryz.underlying259 (by kernel_rfl) (by kernel_rfl) _ _ w)
  · exact face8_walk _ .nilIface false w (fun w => run_typeAssert_lacksB Tryz.underlying259 (by kernel_rfl) (by kernel_rfl) _ _ w)
  · exact face8_walk _ .nilIface false w (fun w => run_typeAssert_lacksB Tryz.underlying259 (by kernel_rfl) (by kernel_rfl) _ _ w)
  · exact face8_walk _ .nilIface false w (fun w => run_typeAssert_lacksB Tryz.underlying259 (by kernel_rfl) (by kernel_rfl) _ _ w)
  · exact face8_walk _ .nilIface false w (fun w => run_typeAssert_lacksB Tryz.underlying259 (by kernel_rfl) (by kernel_rfl) _ _ w)
  · exact face8_walk _ .nilIface false w (fun w => run_typeAssert_lacksB Tryz.underlying259 (by kernel_rfl) (by kernel_rfl) _ _ w)
  · exact face8_walk _ .nilIface false w (fun w => run_typeAssert_lacksB Tryz.underlying259 (by kernel_rfl) (by kernel_rfl) _ _ w)

set_option maxRecDepth 100000 in
set_option maxHeartbeats 1000000 in
theorem face9_walk (u x : Value) (b : Bool) (w : World) (h : ∀ w, (Instr.typeAssert u 20 262 true).run Tryz.prog w = .ok (.tuple #[x, .bool b]) w) :
    Calls Tryz.prog 207 #[.agg #[], u] w fun e w' => e = .returned (.bool b) ∧ Below w.heap.size w w' := by
  go_enter Tryz.func207, Tryz.ntmps207
  go_wp2
  go_ret
  exact ⟨rfl, below1 w _⟩
theorem face9_asks : Asks 207 (fun k => impl k 9) := by
  intro k u w hk
  rcases hk.cases with ⟨h0, rfl⟩ | ⟨rfl, a, rfl⟩ | ⟨rfl, a, rfl⟩ | ⟨rfl, a, rfl⟩ | ⟨rfl, a, rfl⟩ | ⟨rfl, a, rfl⟩ | ⟨rfl, a, rfl⟩ | ⟨rfl, a, rfl⟩ | ⟨rfl, a, rfl⟩ | ⟨rfl, a, b, rfl, ha, hb⟩ | ⟨rfl, c, a, rfl⟩ | ⟨rfl, a, rfl⟩ | ⟨rfl, rfl⟩ | ⟨rfl, rfl⟩
  · simp only [impl_no h0]; exact face9_walk _ .nilIface false w (fun w => assert_nil Tryz.underlying262 (by kernel_rfl))
  · exact face9_walk _ .nilIface false w (fun w => run_typeAssert_lacksB Tryz.underlying262 (by kernel_rfl) (by kernel_rfl) _ _ w)
  · exact face9_walk _ .nilIface false w (fun w => run_typeAssert_lacksB Tryz.underlying262 (by kernel_rfl) (by kernel_rfl) _ _ w)
  · exact face9_walk _ .nilIface false w (fun w => run_typeAssert_lacksB Tryz.underlying262 (by kernel_rfl) (by kernel_rfl) _ _ w)
  · exact face9_walk _ .nilIface false w (fun w => run_typeAssert_lacksB Tryz.underlying262 (by kernel_rfl) (by kernel_rfl) _ _ w)
  · exact face9_walk _ (.iface 143 a) true w (fun w => run_typeAssert_hasB Tryz.underlying262 (by kernel_rfl) _ _ w)
  · exact face9_walk _ .nilIface false w (fun w => run_typeAssert_lacksB Tryz.underlying262 (by kernel_rfl) (by kernel_rfl) _ _ w)
  · exact face9_walk _ .nilIface false w (fun w => run_typeAssert_lacksB Tryz.underlying262 (by kernel_rfl) (by kernel_rfl) _ _ w)
  · exact face9_walk _ .nilIface false w (fun w => run_typeAssert_lacksB Tryz.underlying262 (by kernel_rfl) (by kernel_rfl) _ _ w)
  · exact face9_walk _ .nilIface false w (fun w => run_typeAssert_lacksB Tryz.underlying262 (by kernel_rfl) (by kernel_rfl) _ _ w)
  · exact face9_walk _ .nilIface false w (fun w => run_typeAssert_lacksB Tryz.underlying262 (by kernel_rfl) (by kernel_rfl) _ _ w)
  · exact face9_walk _ .nilIface false w (fun w => run_typeAssert_lacksB Tryz.underlying262 (by kernel_rfl) (by kernel_rfl) _ _ w)
  · exact face9_walk _ .nilIface false w (fun w => run_typeAssert_lacksB Tryz.underlying262 (by kernel_rfl) (by kernel_rfl) _ _ w)
  · exact face9_walk _ .nilIface false w (fun w => run_typeAssert_lacksB Tryz.underlying262 (by kernel_rfl) (by kernel_rfl) _ _ w)

set_option maxRecDepth 100000 in
set_option maxHeartbeats 1000000 in
theorem typeNo_walk (u : Value) (b : Bool) (w : World) (h : ∀ w, (Instr.typeAssert u 20 249 true).run Tryz.prog w = .ok (.tuple #[.agg #[], .bool b]) w) :
    Calls Tryz.prog 188 #[.agg #[], u] w fun e w' => e = .returned (.bool b) ∧ Below w.heap.size w w' := by
  go_enter Tryz.func188, Tryz.ntmps188
  go_wp2
  go_ret
  exact ⟨rfl, by first | exact below2 w _ _ | exact (below2 w _ _).setCell (by simp) _ | exact ((below2 w _ _).setCell (by simp) _).setCell (by simp) _⟩
theorem typeNo_asks : Asks 188 (fun _ => false) := by
  intro k u w hk
  rcases hk.cases with ⟨h0, rfl⟩ | ⟨rfl, a, rfl⟩ | ⟨rfl, a, rfl⟩ | ⟨rfl, a, rfl⟩ | ⟨rfl, a, rfl⟩ | ⟨rfl, a, rfl⟩ | ⟨rfl, a, rfl⟩ | ⟨rfl, a, rfl⟩ | ⟨rfl, a, rfl⟩ | ⟨rfl, a, b, rfl, ha, hb⟩ | ⟨rfl, c, a, rfl⟩ | ⟨rfl, a, rfl⟩ | ⟨rfl, rfl⟩ | ⟨rfl, rfl⟩
  · exact typeNo_walk _ false w (fun w => assert_nil Tryz.underlying249 (by kernel_rfl))
  · exact typeNo_walk _ false w (fun w => assert_to (z := .agg #[]) Tryz.underlying249 (fun m h => by cases h) (by kernel_rfl))
  · exact typeNo_walk _ false w (fun w => assert_to (z := .agg #[]) Tryz.underlying249 (fun m h => by cases h) (by kernel_rfl))
  · exact typeNo_walk _ false w (fun w => assert_to (z := .agg #[]) Tryz.underlying249 (fun m h => by cases h) (by kernel_rfl))
  · exact typeNo_walk _ false w (fun w => assert_to (z := .agg #[]) Tryz.underlying249 (fun m h => by cases h) (by kernel_rfl))
  · exact typeNo_walk _ false w (fun w => assert_to (z := .agg #[]) Tryz.underlying249 (fun m h => by cases h) (by kernel_rfl))
  · exact typeNo_walk _ false w (fun w => assert_to (z := .agg #[]) Tryz.underlying249 (fun m h => by cases h) (by kernel_rfl))
  · exact typeNo_walk _ false w (fun w => assert_to (z := .agg #[]) Tryz.underlying249 (fun m h => by cases h) (by kernel_rfl))
  · exact typeNo_walk _ false w (fun w => assert_to (z := .agg #[]) Tryz.underlying249 (fun m h => by cases h) (by kernel_rfl))
  · exact typeNo_walk _ false w (fun w => assert_to (z := .agg #[]) Tryz.underlying249 (fun m h => by cases h) (by kernel_rfl))
  · exact typeNo_walk _ false w (fun w => assert_to (z := .agg #[]) Tryz.underlying249 (fun m h => by cases h) (by kernel_rfl))
  · exact typeNo_walk _ false w (fun w => assert_to (z := .agg #[]) Tryz.underlying249 (fun m h => by cases h) (by kernel_rfl))
  · exact typeNo_walk _ false w (fun w => assert_to (z := .agg #[]) Tryz.underlying249 (fun m h => by cases h) (by kernel_rfl))
  · exact typeNo_walk _ false w (fun w => assert_to (z := .agg #[]) Tryz.underlying249 (fun m h => by cases h) (by kernel_rfl))

set_option maxRecDepth 100000 in
set_option maxHeartbeats 1000000 in
theorem type12_walk (u : Value) (b : Bool) (w : World) (h : ∀ w, (binOp .eql 20 u (.iface 155 (.pointer none))).run Tryz.prog w = .ok (.bool b) w) (hg : ∀ w, (eqGuard .eql 20 (.tmp 5) (.tmp 6) u (.iface 155 (.pointer none))).run Tryz.prog w = .ok () w) :
    Calls Tryz.prog 183 #[.agg #[], u] w fun e w' => e = .returned (.bool b) ∧ Below w.heap.size w w' := by
  go_enter Tryz.func183, Tryz.ntmps183
  go_wp2
  go_ret
  exact ⟨rfl, below1 w _⟩
theorem type12_asks : Asks 183 (fun k => k == 12) := by
  intro k u w hk
  rcases hk.cases with ⟨h0, rfl⟩ | ⟨rfl, a, rfl⟩ | ⟨rfl, a, rfl⟩ | ⟨rfl, a, rfl⟩ | ⟨rfl, a, rfl⟩ | ⟨rfl, a, rfl⟩ | ⟨rfl, a, rfl⟩ | ⟨rfl, a, rfl⟩ | ⟨rfl, a, rfl⟩ | ⟨rfl, a, b, rfl, ha, hb⟩ | ⟨rfl, c, a, rfl⟩ | ⟨rfl, a, rfl⟩ | ⟨rfl, rfl⟩ | ⟨rfl, rfl⟩
  · simp only [kd_no h0 12 (by decide) (by decide)]; exact type12_walk _ false w (fun w => by kernel_rfl) (fun w => by kernel_rfl)
  · exact type12_walk _ false w (fun w => run_eql_iface_types _ _ _ _ Tryz.underlying20 (by decide) w) (fun w => by kernel_rfl)
  · exact type12_walk _ false w (fun w => run_eql_iface_types _ _ _ _ Tryz.underlying20 (by decide) w) (fun w => by kernel_rfl)
  · exact type12_walk _ false w (fun w => run_eql_iface_types _ _ _ _ Tryz.underlying20 (by decide) w) (fun w => by kernel_rfl)
  · exact type12_walk _ false w (fun w => run_eql_iface_types _ _ _ _ Tryz.underlying20 (by decide) w) (fun w => by kernel_rfl)
  · exact type12_walk _ false w (fun w => run_eql_iface_types _ _ _ _ Tryz.underlying20 (by decide) w) (fun w => by kernel_rfl)
  · exact type12_walk _ false w (fun w => run_eql_iface_types _ _ _ _ Tryz.underlying20 (by decide) w) (fun w => by kernel_rfl)
  · exact type12_walk _ false w (fun w => run_eql_iface_types _ _ _ _ Tryz.underlying20 (by decide) w) (fun w => by kernel_rfl)
  · exact type12_walk _ false w (fun w => run_eql_iface_types _ _ _ _ Tryz.underlying20 (by decide) w) (fun w => by kernel_rfl)
  · exact type12_walk _ false w (fun w => run_eql_iface_types _ _ _ _ Tryz.underlying20 (by decide) w) (fun w => by kernel_rfl)
  · exact type12_walk _ false w (fun w => run_eql_iface_types _ _ _ _ Tryz.underlying20 (by decide) w) (fun w => by kernel_rfl)
  · exact type12_walk _ false w (fun w => by kernel_rfl) (fun w => by kernel_rfl)
  · exact type12_walk _ true w (fun w => by kernel_rfl) (fun w => by kernel_rfl)
  · exact type12_walk _ false w (fun w => run_eql_iface_types _ _ _ _ Tryz.underlying20 (by decide) w) (fun w => by kernel_rfl)
end Go.Proofs.YtajagjcfmaggiaaGreatDoor
