/- What each question of the package answers of a value of kind k: of a type whether the kind has it, of an interface whether the kind has all its methods; no condition. -/
import Derived.Test.YtokiaolgdkikiabGreatBase
namespace Go.Proofs.YtokiaolgdkikiabGreat
open Go.RowKit

/-- The question that function f asks answers p of a kind. -/
def Asks (f : Nat) (p : Int → Bool) : Prop := ∀ (k : Int) (u : Value) (w : World), Kd k u → Calls Tryz.prog f #[.agg #[], u] w fun e w' => e = .returned (.bool (p k)) ∧ Below w.heap.size w w'

theorem kd_no {k : Int} (h : k < 1 ∨ 13 < k) (j : Int) (h1 : 1 ≤ j) (h2 : j ≤ 13) : (k == j) = false := by simp; omega
theorem impl_no {k : Int} (h : k < 1 ∨ 13 < k) (f : Int) : impl k f = false := by
  unfold impl
  by_cases h0 : 0 < k
  · have : ¬ k < 14 := by omega
    simp [this]
  · simp [h0]

set_option maxRecDepth 100000 in
set_option maxHeartbeats 1000000 in
theorem face0_walk (u x : Value) (b : Bool) (w : World) (h : ∀ w, (Instr.typeAssert u 20 133 true).run Tryz.prog w = .ok (.tuple #[x, .bool b]) w) :
    Calls Tryz.prog 75 #[.agg #[], u] w fun e w' => e = .returned (.bool b) ∧ Below w.heap.size w w' := by
  go_enter Tryz.func75, Tryz.ntmps75
  go_wp2
  go_ret
  exact ⟨rfl, below1 w _⟩
theorem face0_asks : Asks 75 (fun k => impl k 0) := by
  intro k u w hk
  rcases hk.cases with ⟨h0, rfl⟩ | ⟨rfl, a, rfl⟩ | ⟨rfl, a, rfl⟩ | ⟨rfl, a, rfl⟩ | ⟨rfl, a, rfl⟩ | ⟨rfl, a, rfl⟩ | ⟨rfl, a, rfl⟩ | ⟨rfl, a, rfl⟩ | ⟨rfl, a, rfl⟩ | ⟨rfl, a, b, rfl, ha, hb⟩ | ⟨rfl, c, a, rfl⟩ | ⟨rfl, a, rfl⟩ | ⟨rfl, rfl⟩ | ⟨rfl, rfl⟩
  · simp only [impl_no h0]; exact face0_walk _ .nilIface false w (fun w => assert_nil Tryz.underlying133 (by kernel_rfl))
  · exact face0_walk _ .nilIface false w (fun w => run_typeAssert_lacksB Tryz.underlying133 (by kernel_rfl) (by kernel_rfl) _ _ w)
  · exact face0_walk _ .nilIface false w (fun w => run_typeAssert_lacksB Tryz.underlying133 (by kernel_rfl) (by kernel_rfl) _ _ w)
  · exact face0_walk _ .nilIface false w (fun w => run_typeAssert_lacksB Tryz.underlying133 (by kernel_rfl) (by kernel_rfl) _ _ w)
  · exact face0_walk _ (.iface 107 a) true w (fun w => run_typeAssert_hasB Tryz.underlying133 (by kernel_rfl) _ _ w)
  · exact face0_walk _ (.iface 108 a) true w (fun w => run_typeAssert_hasB Tryz.underlying133 (by kernel_rfl) _ _ w)
  · exact face0_walk _ .nilIface false w (fun w => run_typeAssert_lacksB Tryz.underlying133 (by kernel_rfl) (by kernel_rfl) _ _ w)
  · exact face0_walk _ (.iface 112 a) true w (fun w => run_typeAssert_hasB Tryz.underlying133 (by kernel_rfl) _ _ w)
  · exact face0_walk _ (.iface 114 a) true w (fun w => run_typeAssert_hasB Tryz.underlying133 (by kernel_rfl) _ _ w)
  · exact face0_walk _ (.iface 117 (.agg #[a, b])) true w (fun w => run_typeAssert_hasB Tryz.underlying133 (by kernel_rfl) _ _ w)
  · exact face0_walk _ .nilIface false w (fun w => run_typeAssert_lacksB Tryz.underlying133 (by kernel_rfl) (by kernel_rfl) _ _ w)
  · exact face0_walk _ (.iface 120 (.pointer (some a))) true w (fun w => run_typeAssert_hasB Tryz.underlying133 (by kernel_rfl) _ _ w)
  · exact face0_walk _ (.iface 120 (.pointer none)) true w (fun w => run_typeAssert_hasB Tryz.underlying133 (by kernel_rfl) _ _ w)
  · exact face0_walk _ .nilIface false w (fun w => run_typeAssert_lacksB Tryz.underlying133 (by kernel_rfl) (by kernel_rfl) _ _ w)

set_option maxRecDepth 100000 in
set_option maxHeartbeats 1000000 in
theorem face1_walk (u x : Value) (b : Bool) (w : World) (h : ∀ w, (Instr.typeAssert u 20 136 true).run Tryz.prog w = .ok (.tuple #[x, .bool b]) w) :
    Calls Tryz.prog 77 #[.agg #[], u] w fun e w' => e = .returned (.bool b) ∧ Below w.heap.size w w' := by
  go_enter Tryz.func77, Tryz.ntmps77
  go_wp2
  go_ret
  exact ⟨rfl, below1 w _⟩
theorem face1_asks : Asks 77 (fun k => impl k 1) := by
  intro k u w hk
  rcases hk.cases with ⟨h0, rfl⟩ | ⟨rfl, a, rfl⟩ | ⟨rfl, a, rfl⟩ | ⟨rfl, a, rfl⟩ | ⟨rfl, a, rfl⟩ | ⟨rfl, a, rfl⟩ | ⟨rfl, a, rfl⟩ | ⟨rfl, a, rfl⟩ | ⟨rfl, a, rfl⟩ | ⟨rfl, a, b, rfl, ha, hb⟩ | ⟨rfl, c, a, rfl⟩ | ⟨rfl, a, rfl⟩ | ⟨rfl, rfl⟩ | ⟨rfl, rfl⟩
  · simp only [impl_no h0]; exact face1_walk _ .nilIface false w (fun w => assert_nil Tryz.underlying136 (by kernel_rfl))
  · exact face1_walk _ .nilIface false w (fun w => run_typeAssert_lacksB Tryz.underlying136 (by kernel_rfl) (by kernel_rfl) _ _ w)
  · exact face1_walk _ (.iface 103 a) true w (fun w => run_typeAssert_hasB Tryz.underlying136 (by kernel_rfl) _ _ w)
  · exact face1_walk _ .nilIface false w (fun w => run_typeAssert_lacksB Tryz.underlying136 (by kernel_rfl) (by kernel_rfl) _ _ w)
  · exact face1_walk _ .nilIface false w (fun w => run_typeAssert_lacksB Tryz.underlying136 (by kernel_rfl) (by kernel_rfl) _ _ w)
  · exact face1_walk _ (.iface 108 a) true w (fun w => run_typeAssert_hasB Tryz.underlying136 (by kernel_rfl) _ _ w)
  · exact face1_walk _ .nilIface false w (fun w => run_typeAssert_lacksB Tryz.underlying136 (by kernel_rfl) (by kernel_rfl) _ _ w)
  · exact face1_walk _ .nilIface false w (fun w => run_typeAssert_lacksB Tryz.underlying136 (by kernel_rfl) (by kernel_rfl) _ _ w)
  · exact face1_walk _ .nilIface false w (fun w => run_typeAssert_lacksB Tryz.underlying136 (by kernel_rfl) (by kernel_rfl) _ _ w)
  · exact face1_walk _ .nilIface false w (fun w => run_typeAssert_lacksB Tryz.underlying136 (by kernel_rfl) (by kernel_rfl) _ _ w)
  · exact face1_walk _ (.iface 119 (.agg #[.int .i64 c, .string a])) true w (fun w => run_typeAssert_hasB Tryz.underlying136 (by kernel_rfl) _ _ w)
  · exact face1_walk _ .nilIface false w (fun w => run_typeAssert_lacksB Tryz.underlying136 (by kernel_rfl) (by kernel_rfl) _ _ w)
  · exact face1_walk _ .nilIface false w (fun w => run_typeAssert_lacksB Tryz.underlying136 (by kernel_rfl) (by kernel_rfl) _ _ w)
  · exact face1_walk _ .nilIface false w (fun w => run_typeAssert_lacksB Tryz.underlying136 (by kernel_rfl) (by kernel_rfl) _ _ w)

set_option maxRecDepth 100000 in
set_option maxHeartbeats 1000000 in
theorem face2_walk (u x : Value) (b : Bool) (w : World) (h : ∀ w, (Instr.typeAssert u 20 139 true).run Tryz.prog w = .ok (.tuple #[x, .bool b]) w) :
    Calls Tryz.prog 79 #[.agg #[], u] w fun e w' => e = .returned (.bool b) ∧ Below w.heap.size w w' := by
  go_enter Tryz.func79, Tryz.ntmps79
  go_wp2
  go_ret
  exact ⟨rfl, below1 w _⟩
theorem face2_asks : Asks 79 (fun k => impl k 2) := by
  intro k u w hk
  rcases hk.cases with ⟨h0, rfl⟩ | ⟨rfl, a, rfl⟩ | ⟨rfl, a, rfl⟩ | ⟨rfl, a, rfl⟩ | ⟨rfl, a, rfl⟩ | ⟨rfl, a, rfl⟩ | ⟨rfl, a, rfl⟩ | ⟨rfl, a, rfl⟩ | ⟨rfl, a, rfl⟩ | ⟨rfl, a, b, rfl, ha, hb⟩ | ⟨rfl, c, a, rfl⟩ | ⟨rfl, a, rfl⟩ | ⟨rfl, rfl⟩ | ⟨rfl, rfl⟩
  · simp only [impl_no h0]; exact face2_walk _ .nilIface false w (fun w => assert_nil Tryz.underlying139 (by kernel_rfl))
  · exact face2_walk _ .nilIface false w (fun w => run_typeAssert_lacksB Tryz.underlying139 (by kernel_rfl) (by kernel_rfl) _ _ w)
  · exact face2_walk _ .nilIface false w (fun w => run_typeAssert_lacksB Tryz.underlying139 (by kernel_rfl) (by kernel_rfl) _ _ w)
  · exact face2_walk _ .nilIface false w (fun w => run_typeAssert_lacksB Tryz.underlying139 (by kernel_rfl) (by kernel_rfl) _ _ w)
  · exact face2_walk _ .nilIface false w (fun w => run_typeAssert_lacksB Tryz.underlying139 (by kernel_rfl) (by kernel_rfl) _ _ w)
  · exact face2_walk _ .nilIface false w (fun w => run_typeAssert_lacksB Tryz.underlying139 (by kernel_rfl) (by kernel_rfl) _ _ w)
  · exact face2_walk _ .nilIface false w (fun w => run_typeAssert_lacksB Tryz.underlying139 (by kernel_rfl) (by kernel_rfl) _ _ w)
  · exact face2_walk _ .nilIface false w (fun w => run_typeAssert_lacksB Tryz.underlying139 (by kernel_rfl) (by kernel_rfl) _ _ w)
  · exact face2_walk _ .nilIface false w (fun w => run_typeAssert_lacksB Tryz.underlying139 (by kernel_rfl) (by kernel_rfl) _ _ w)
  · exact face2_walk _ .nilIface false w (fun w => run_typeAssert_lacksB Tryz.underlying139 (by kernel_rfl) (by kernel_rfl) _ _ w)
  · exact face2_walk _ (.iface 119 (.agg #[.int .i64 c, .string a])) true w (fun w => run_typeAssert_hasB Tryz.underlying139 (by kernel_rfl) _ _ w)
  · exact face2_walk _ (.iface 120 (.pointer (some a))) true w (fun w => run_typeAssert_hasB Tryz.underlying139 (by kernel_rfl) _ _ w)
  · exact face2_walk _ (.iface 120 (.pointer none)) true w (fun w => run_typeAssert_hasB Tryz.underlying139 (by kernel_rfl) _ _ w)
  · exact face2_walk _ .nilIface false w (fun w => run_typeAssert_lacksB Tryz.underlying139 (by kernel_rfl) (by kernel_rfl) _ _ w)

set_option maxRecDepth 100000 in
set_option maxHeartbeats 1000000 in
theorem face3_walk (u x : Value) (b : Bool) (w : World) (h : ∀ w, (Instr.typeAssert u 20 142 true).run Tryz.prog w = .ok (.tuple #[x, .bool b]) w) :
    Calls Tryz.prog 81 #[.agg #[], u] w fun e w' => e = .returned (.bool b) ∧ Below w.heap.size w w' := by
  go_enter Tryz.func81, Tryz.ntmps81
  go_wp2
  go_ret
  exact ⟨rfl, below1 w _⟩
theorem face3_asks : Asks 81 (fun k => impl k 3) := by
  intro k u w hk
  rcases hk.cases with ⟨h0, rfl⟩ | ⟨rfl, a, rfl⟩ | ⟨rfl, a, rfl⟩ | ⟨rfl, a, rfl⟩ | ⟨rfl, a, rfl⟩ | ⟨rfl, a, rfl⟩ | ⟨rfl, a, rfl⟩ | ⟨rfl, a, rfl⟩ | ⟨rfl, a, rfl⟩ | ⟨rfl, a, b, rfl, ha, hb⟩ | ⟨rfl, c, a, rfl⟩ | ⟨rfl, a, rfl⟩ | ⟨rfl, rfl⟩ | ⟨rfl, rfl⟩
  · simp only [impl_no h0]; exact face3_walk _ .nilIface false w (fun w => assert_nil Tryz.underlying142 (by kernel_rfl))
  · exact face3_walk _ .nilIface false w (fun w => run_typeAssert_lacksB Tryz.underlying142 (by kernel_rfl) (by kernel_rfl) _ _ w)
  · exact face3_walk _ .nilIface false w (fun w => run_typeAssert_lacksB Tryz.underlying142 (by kernel_rfl) (by kernel_rfl) _ _ w)
  · exact face3_walk _ .nilIface false w (fun w => run_typeAssert_lacksB Tryz.underlying142 (by kernel_rfl) (by kernel_rfl) _ _ w)
  · exact face3_walk _ .nilIface false w (fun w => run_typeAssert_lacksB Tryz.underlying142 (by kernel_rfl) (by kernel_rfl) _ _ w)
  · exact face3_walk _ .nilIface false w (fun w => run_typeAssert_lacksB Tryz.underlying142 (by kernel_rfl) (by kernel_rfl) _ _ w)
  · exact face3_walk _ .nilIface false w (fun w => run_typeAssert_lacksB Tryz.underlying142 (by kernel_rfl) (by kernel_rfl) _ _ w)
  · exact face3_walk _ .nilIface false w (fun w => run_typeAssert_lacksB Tryz.underlying142 (by kernel_rfl) (by kernel_rfl) _ _ w)
  · exact face3_walk _ .nilIface false w (fun w => run_typeAssert_lacksB Tryz.underlying142 (by kernel_rfl) (by kernel_rfl) _ _ w)
  · exact face3_walk _ .nilIface false w (fun w => run_typeAssert_lacksB Tryz.underlying142 (by kernel_rfl) (by kernel_rfl) _ _ w)
  · exact face3_walk _ .nilIface false w (fun w => run_typeAssert_lacksB Tryz.underlying142 (by kernel_rfl) (by kernel_rfl) _ _ w)
  · exact face3_walk _ (.iface 120 (.pointer (some a))) true w (fun w => run_typeAssert_hasB Tryz.underlying142 (by kernel_rfl) _ _ w)
  · exact face3_walk _ (.iface 120 (.pointer none)) true w (fun w => run_typeAssert_hasB Tryz.underlying142 (by kernel_rfl) _ _ w)
  · exact face3_walk _ .nilIface false w (fun w => run_typeAssert_lacksB Tryz.underlying142 (by kernel_rfl) (by kernel_rfl) _ _ w)

set_option maxRecDepth 100000 in
set_option maxHeartbeats 1000000 in
theorem face4_walk (u x : Value) (b : Bool) (w : World) (h : ∀ w, (Instr.typeAssert u 20 145 true).run Tryz.prog w = .ok (.tuple #[x, .bool b]) w) :
    Calls Tryz.prog 83 #[.agg #[], u] w fun e w' => e = .returned (.bool b) ∧ Below w.heap.size w w' := by
  go_enter Tryz.func83, Tryz.ntmps83
  go_wp2
  go_ret
  exact ⟨rfl, below1 w _⟩
theorem face4_asks : Asks 83 (fun k => impl k 4) := by
  intro k u w hk
  rcases hk.cases with ⟨h0, rfl⟩ | ⟨rfl, a, rfl⟩ | ⟨rfl, a, rfl⟩ | ⟨rfl, a, rfl⟩ | ⟨rfl, a, rfl⟩ | ⟨rfl, a, rfl⟩ | ⟨rfl, a, rfl⟩ | ⟨rfl, a, rfl⟩ | ⟨rfl, a, rfl⟩ | ⟨rfl, a, b, rfl, ha, hb⟩ | ⟨rfl, c, a, rfl⟩ | ⟨rfl, a, rfl⟩ | ⟨rfl, rfl⟩ | ⟨rfl, rfl⟩
  · simp only [impl_no h0]; exact face4_walk _ .nilIface false w (fun w => assert_nil Tryz.underlying145 (by kernel_rfl))
  · exact face4_walk _ (.iface 102 a) true w (fun w => run_typeAssert_hasB Tryz.underlying145 (by kernel_rfl) _ _ w)
  · exact face4_walk _ (.iface 103 a) true w (fun w => run_typeAssert_hasB Tryz.underlying145 (by kernel_rfl) _ _ w)
  · exact face4_walk _ (.iface 105 a) true w (fun w => run_typeAssert_hasB Tryz.underlying145 (by kernel_rfl) _ _ w)
  · exact face4_walk _ (.iface 107 a) true w (fun w => run_typeAssert_hasB Tryz.underlying145 (by kernel_rfl) _ _ w)
  · exact face4_walk _ (.iface 108 a) true w (fun w => run_typeAssert_hasB Tryz.underlying145 (by kernel_rfl) _ _ w)
  · exact face4_walk _ .nilIface false w (fun w => run_typeAssert_lacksB Tryz.underlying145 (by kernel_rfl) (by kernel_rfl) _ _ w)
  · exact face4_walk _ .nilIface false w (fun w => run_typeAssert_lacksB Tryz.underlying145 (by kernel_rfl) (by kernel_rfl) _ _ w)
  · exact face4_walk _ .nilIface false w (fun w => run_typeAssert_lacksB Tryz.underlying145 (by kernel_rfl) (by kernel_rfl) _ _ w)
  · exact face4_walk _ .nilIface false w (fun w => run_typeAssert_lacksB Tryz.underlying145 (by kernel_rfl) (by kernel_rfl) _ _ w)
  · exact face4_walk _ .nilIface false w (fun w => run_typeAssert_lacksB Tryz.underlying145 (by kernel_rfl) (by kernel_rfl) _ _ w)
  · exact face4_walk _ .nilIface false w (fun w => run_typeAssert_lacksB Tryz.underlying145 (by kernel_rfl) (by kernel_rfl) _ _ w)
  · exact face4_walk _ .nilIface false w (fun w => run_typeAssert_lacksB Tryz.underlying145 (by kernel_rfl) (by kernel_rfl) _ _ w)
  · exact face4_walk _ .nilIface false w (fun w => run_typeAssert_lacksB Tryz.underlying145 (by kernel_rfl) (by kernel_rfl) _ _ w)

set_option maxRecDepth 100000 in
set_option maxHeartbeats 1000000 in
theorem face5_walk (u x : Value) (b : Bool) (w : World) (h : ∀ w, (Instr.typeAssert u 20 148 true).run Tryz.prog w = .ok (.tuple #[x, .bool b]) w) :
    Calls Tryz.prog 85 #[.agg #[], u] w fun e w' => e = .returned (.bool b) ∧ Below w.heap.size w w' := by
  go_enter Tryz.func85, Tryz.ntmps85
  go_wp2
  go_ret
  exact ⟨rfl, below1 w _⟩
theorem face5_asks : Asks 85 (fun k => impl k 5) := by
  intro k u w hk
  rcases hk.cases with ⟨h0, rfl⟩ | ⟨rfl, a, rfl⟩ | ⟨rfl, a, rfl⟩ | ⟨rfl, a, rfl⟩ | ⟨rfl, a, rfl⟩ | ⟨rfl, a, rfl⟩ | ⟨rfl, a, rfl⟩ | ⟨rfl, a, rfl⟩ | ⟨rfl, a, rfl⟩ | ⟨rfl, a, b, rfl, ha, hb⟩ | ⟨rfl, c, a, rfl⟩ | ⟨rfl, a, rfl⟩ | ⟨rfl, rfl⟩ | ⟨rfl, rfl⟩
  · simp only [impl_no h0]; exact face5_walk _ .nilIface false w (fun w => assert_nil Tryz.underlying148 (by kernel_rfl))
  · exact face5_walk _ (.iface 102 a) true w (fun w => run_typeAssert_hasB Tryz.underlying148 (by kernel_rfl) _ _ w)
  · exact face5_walk _ .nilIface false w (fun w => run_typeAssert_lacksB Tryz.underlying148 (by kernel_rfl) (by kernel_rfl) _ _ w)
  · exact face5_walk _ (.iface 105 a) true w (fun w => run_typeAssert_hasB Tryz.underlying148 (by kernel_rfl) _ _ w)
  · exact face5_walk _ .nilIface false w (fun w => run_typeAssert_lacksB Tryz.underlying148 (by kernel_rfl) (by kernel_rfl) _ _ w)
  · exact face5_walk _ .nilIface false w (fun w => run_typeAssert_lacksB Tryz.underlying148 (by kernel_rfl) (by kernel_rfl) _ _ w)
  · exact face5_walk _ .nilIface false w (fun w => run_typeAssert_lacksB Tryz.underlying148 (by kernel_rfl) (by kernel_rfl) _ _ w)
  · exact face5_walk _ .nilIface false w (fun w => run_typeAssert_lacksB Tryz.underlying148 (by kernel_rfl) (by kernel_rfl) _ _ w)
  · exact face5_walk _ .nilIface false w (fun w => run_typeAssert_lacksB Tryz.underlying148 (by kernel_rfl) (by kernel_rfl) _ _ w)
  · exact face5_walk _ .nilIface false w (fun w => run_typeAssert_lacksB Tryz.underlying148 (by kernel_rfl) (by kernel_rfl) _ _ w)
  · exact face5_walk _ .nilIface false w (fun w => run_typeAssert_lacksB Tryz.underlying148 (by kernel_rfl) (by kernel_rfl) _ _ w)
  · exact face5_walk _ .nilIface false w (fun w => run_typeAssert_lacksB Tryz.underlying148 (by kernel_rfl) (by kernel_rfl) _ _ w)
  · exact face5_walk _ .nilIface false w (fun w => run_typeAssert_lacksB Tryz.underlying148 (by kernel_rfl) (by kernel_rfl) _ _ w)
  · exact face5_walk _ .nilIface false w (fun w => run_typeAssert_lacksB Tryz.underlying148 (by kernel_rfl) (by kernel_rfl) _ _ w)

set_option maxRecDepth 100000 in
set_option maxHeartbeats 1000000 in
theorem face6_walk (u x : Value) (b : Bool) (w : World) (h : ∀ w, (Instr.typeAssert u 20 166 true).run Tryz.prog w = .ok (.tuple #[x, .bool b]) w) :
    Calls Tryz.prog 87 #[.agg #[], u] w fun e w' => e = .returned (.bool b) ∧ Below w.heap.size w w' := by
  go_enter Tryz.func87, Tryz.ntmps87
  go_wp2
  go_ret
  exact ⟨rfl, below1 w _⟩
theorem face6_asks : Asks 87 (fun k => impl k 6) := by
  intro k u w hk
  rcases hk.cases with ⟨h0, rfl⟩ | ⟨rfl, a, rfl⟩ | ⟨rfl, a, rfl⟩ | ⟨rfl, a, rfl⟩ | ⟨rfl, a, rfl⟩ | ⟨rfl, a, rfl⟩ | ⟨rfl, a, rfl⟩ | ⟨rfl, a, rfl⟩ | ⟨rfl, a, rfl⟩ | ⟨rfl, a, b, rfl, ha, hb⟩ | ⟨rfl, c, a, rfl⟩ | ⟨rfl, a, rfl⟩ | ⟨rfl, rfl⟩ | ⟨rfl, rfl⟩
  · simp only [impl_no h0]; exact face6_walk _ .nilIface false w (fun w => assert_nil Tryz.underlying166 (by kernel_rfl))
  · exact face6_walk _ .nilIface false w (fun w => run_typeAssert_lacksB Tryz.underlying166 (by kernel_rfl) (by kernel_rfl) _ _ w)
  · exact face6_walk _ .nilIface false w (fun w => run_typeAssert_lacksB Tryz.underlying166 (by kernel_rfl) (by kernel_rfl) _ _ w)
  · exact face6_walk _ .nilIface false w (fun w => run_typeAssert_lacksB Tryz.underlying166 (by kernel_rfl) (by kernel_rfl) _ _ w)
  · exact face6_walk _ .nilIface false w (fun w => run_typeAssert_lacksB Tryz.underlying166 (by kernel_rfl) (by kernel_rfl) _ _ w)
  · exact face6_walk _ (.iface 108 a) true w (fun w => run_typeAssert_hasB Tryz.underlying166 (by kernel_rfl) _ _ w)
  · exact face6_walk _ .nilIface false w (fun w => run_typeAssert_lacksB Tryz.underlying166 (by kernel_rfl) (by kernel_rfl) _ _ w)
  · exact face6_walk _ .nilIface false w (fun w => run_typeAssert_lacksB Tryz.underlying166 (by kernel_rfl) (by kernel_rfl) _ _ w)
  · exact face6_walk _ .nilIface false w (fun w => run_typeAssert_lacksB Tryz.underlying166 (by kernel_rfl) (by kernel_rfl) _ _ w)
  · exact face6_walk _ .nilIface false w (fun w => run_typeAssert_lacksB Tryz.underlying166 (by kernel_rfl) (by kernel_rfl) _ _ w)
  · exact face6_walk _ .nilIface false w (fun w => run_typeAssert_lacksB Tryz.underlying166 (by kernel_rfl) (by kernel_rfl) _ _ w)
  · exact face6_walk _ .nilIface false w (fun w => run_typeAssert_lacksB Tryz.underlying166 (by kernel_rfl) (by kernel_rfl) _ _ w)
  · exact face6_walk _ .nilIface false w (fun w => run_typeAssert_lacksB Tryz.underlying166 (by kernel_rfl) (by kernel_rfl) _ _ w)
  · exact face6_walk _ .nilIface false w (fun w => run_typeAssert_lacksB Tryz.underlying166 (by kernel_rfl) (by kernel_rfl) _ _ w)

set_option maxRecDepth 100000 in
set_option maxHeartbeats 1000000 in
theorem face7_walk (u x : Value) (b : Bool) (w : World) (h : ∀ w, (Instr.typeAssert u 20 169 true).run Tryz.prog w = .ok (.tuple #[x, .bool b]) w) :
    Calls Tryz.prog 89 #[.agg #[], u] w fun e w' => e = .returned (.bool b) ∧ Below w.heap.size w w' := by
  go_enter Tryz.func89, Tryz.ntmps89
  go_wp2
  go_ret
  exact ⟨rfl, below1 w _⟩
theorem face7_asks : Asks 89 (fun k => impl k 7) := by
  intro k u w hk
  rcases hk.cases with ⟨h0, rfl⟩ | ⟨rfl, a, rfl⟩ | ⟨rfl, a, rfl⟩ | ⟨rfl, a, rfl⟩ | ⟨rfl, a, rfl⟩ | ⟨rfl, a, rfl⟩ | ⟨rfl, a, rfl⟩ | ⟨rfl, a, rfl⟩ | ⟨rfl, a, rfl⟩ | ⟨rfl, a, b, rfl, ha, hb⟩ | ⟨rfl, c, a, rfl⟩ | ⟨rfl, a, rfl⟩ | ⟨rfl, rfl⟩ | ⟨rfl, rfl⟩
  · simp only [impl_no h0]; exact face7_walk _ .nilIface false w (fun w => assert_nil Tryz.underlying169 (by kernel_rfl))
  · exact face7_walk _ .nilIface false w (fun w => run_typeAssert_lacksB Tryz.underlying169 (by kernel_rfl) (by kernel_rfl) _ _ w)
  · exact face7_walk _ .nilIface false w (fun w => run_typeAssert_lacksB Tryz.underlying169 (by kernel_rfl) (by kernel_rfl) _ _ w)
  · exact face7_walk _ .nilIface false w (fun w => run_typeAssert_lacksB Tryz.underlying169 (by kernel_rfl) (by kernel_rfl) _ _ w)
  · exact face7_walk _ (.iface 107 a) true w (fun w => run_typeAssert_hasB Tryz.underlying169 (by kernel_rfl) _ _ w)
  · exact face7_walk _ (.iface 108 a) true w (fun w => run_typeAssert_hasB Tryz.underlying169 (by kernel_rfl) _ _ w)
  · exact face7_walk _ .nilIface false w (fun w => run_typeAssert_lacksB Tryz.underlying169 (by kernel_rfl) (by kernel_rfl) _ _ w)
  · exact face7_walk _ .nilIface false w (fun w => run_typeAssert_lacksB Tryz.underlying169 (by kernel_rfl) (by kernel_rfl) _ _ w)
  · exact face7_walk _ .nilIface false w (fun w => run_typeAssert_lacksB Tryz.underlying169 (by kernel_rfl) (by kernel_rfl) _ _ w)
  · exact face7_walk _ .nilIface false w (fun w => run_typeAssert_lacksB Tryz.underlying169 (by kernel_rfl) (by kernel_rfl) _ _ w)
  · exact face7_walk _ .nilIface false w (fun w => run_typeAssert_lacksB Tryz.underlying169 (by kernel_rfl) (by kernel_rfl) _ _ w)
  · exact face7_walk _ .nilIface false w (fun w => run_typeAssert_lacksB Tryz.underlying169 (by kernel_rfl) (by kernel_rfl) _ _ w)
  · exact face7_walk _ .nilIface false w (fun w => run_typeAssert_lacksB Tryz.underlying169 (by kernel_rfl) (by kernel_rfl) _ _ w)
  · exact face7_walk _ .nilIface false w (fun w => run_typeAssert_lacksB Tryz.underlying169 (by kernel_rfl) (by kernel_rfl) _ _ w)

set_option maxRecDepth 100000 in
set_option maxHeartbeats 1000000 in
theorem face8_walk (u x : Value) (b : Bool) (w : World) (h : ∀ w, (Instr.typeAssert u 20 172 true).run Tryz.prog w = .ok (.tuple #[x, .bool b]) w) :
    Calls Tryz.prog 91 #[.agg #[], u] w fun e w' => e = .returned (.bool b) ∧ Below w.heap.size w w' := by
  go_enter Tryz.func91, Tryz.ntmps91
  go_wp2
  go_ret
  exact ⟨rfl, below1 w _⟩
theorem face8_asks : Asks 91 (fun k => impl k 8) := by
  intro k u w hk
  rcases hk.cases with ⟨h0, rfl⟩ | ⟨rfl, a, rfl⟩ | ⟨rfl, a, rfl⟩ | ⟨rfl, a, rfl⟩ | ⟨rfl, a, rfl⟩ | ⟨rfl, a, rfl⟩ | ⟨rfl, a, rfl⟩ | ⟨rfl, a, rfl⟩ | ⟨rfl, a, rfl⟩ | ⟨rfl, a, b, rfl, ha, hb⟩ | ⟨rfl, c, a, rfl⟩ | ⟨rfl, a, rfl⟩ | ⟨rfl, rfl⟩ | ⟨rfl, rfl⟩
  · simp only [impl_no h0]; exact face8_walk _ .nilIface false w (fun w => assert_nil Tryz.underlying172 (by kernel_rfl))
  · exact face8_walk _ (.iface 102 a) true w (fun w => run_typeAssert_hasB Tryz.underlying172 (by kernel_rfl) _ _ w)
  · exact face8_walk _ .nilIface false w (fun w => run_typeAssert_lacksB Tryz.underlying172 (by kernel_rfl) (by kernel_rfl) _ _ w)
  · exact face8_walk _ (.iface 105 a) true w (fun w => run_typeAssert_hasB Tryz.underlying172 (by kernel_rfl) _ _ w)
  · exact face8_walk _ .nilIface false w (fun w => run_typeAssert_lacksB Tryz.underlying172 (by kernel_rfl) (by kernel_rfl) _ _ w)
  · exact face8_walk _ .nilIface false w (fun w => run_typeAssert_lacksB Tryz.underlying172 (by kernel_rfl) (by kernel_rfl) _ _ w)
  · exact face8_walk _ .nilIface false w (fun w => run_typeAssert_lacksB Tryz.underlying172 (by kernel_rfl) (by kernel_rfl) _ _ w)
  · exact face8_walk _ .nilIface false w (fun w => run_typeAssert_lacksB Tryz.underlying172 (by kernel_rfl) (by kernel_rfl) _ _ w)
  · exact face8_walk _ .nilIface false w (fun w => run_typeAssert_lacksB Tryz.underlying172 (by kernel_rfl) (by kernel_rfl) _ _ w)
  · exact face8_walk _ .nilIface false w (fun w => run_typeAssert_lacksB Tryz.underlying172 (by kernel_rfl) (by kernel_rfl) _ _ w)
  · exact face8_walk _ .nilIface false w (fun w => run_typeAssert_lacksB Tryz.underlying172 (by kernel_rfl) (by kernel_rfl) _ _ w)
  · exact face8_walk _ .nilIface false w (fun w => run_typeAssert_lacksB Tryz.underlying172 (by kernel_rfl) (by kernel_rfl) _ _ w)
  · exact face8_walk _ .nilIface false w (fun w => run_typeAssert_lacksB Tryz.underlying172 (by kernel_rfl) (by kernel_rfl) _ _ w)
  · exact face8_walk _ .nilIface false w (fun w => run_typeAssert_lacksB Tryz.underlying172 (by kernel_rfl) (by kernel_rfl) _ _ w)

set_option maxRecDepth 100000 in
set_option maxHeartbeats 1000000 in
theorem face9_walk (u x : Value) (b : Bool) (w : World) (h : ∀ w, (Instr.typeAssert u 20 175 true).run Tryz.prog w = .ok (.tuple #[x, .bool b]) w) :
    Calls Tryz.prog 93 #[.agg #[], u] w fun e w' => e = .returned (.bool b) ∧ Below w.heap.size w w' := by
  go_enter Tryz.func93, Tryz.ntmps93
  go_wp2
  go_ret
  exact ⟨rfl, below1 w _⟩
theorem face9_asks : Asks 93 (fun k => impl k 9) := by
  intro k u w hk
  rcases hk.cases with ⟨h0, rfl⟩ | ⟨rfl, a, rfl⟩ | ⟨rfl, a, rfl⟩ | ⟨rfl, a, rfl⟩ | ⟨rfl, a, rfl⟩ | ⟨rfl, a, rfl⟩ | ⟨rfl, a, rfl⟩ | ⟨rfl, a, rfl⟩ | ⟨rfl, a, rfl⟩ | ⟨rfl, a, b, rfl, ha, hb⟩ | ⟨rfl, c, a, rfl⟩ | ⟨rfl, a, rfl⟩ | ⟨rfl, rfl⟩ | ⟨rfl, rfl⟩
  · simp only [impl_no h0]; exact face9_walk _ .nilIface false w (fun w => assert_nil Tryz.underlying175 (by kernel_rfl))
  · exact face9_walk _ .nilIface false w (fun w => run_typeAssert_lacksB Tryz.underlying175 (by kernel_rfl) (by kernel_rfl) _ _ w)
  · exact face9_walk _ .nilIface false w (fun w => run_typeAssert_lacksB Tryz.underlying175 (by kernel_rfl) (by kernel_rfl) _ _ w)
  · exact face9_walk _ .nilIface false w (fun w => run_typeAssert_lacksB Tryz.underlying175 (by kernel_rfl) (by kernel_rfl) _ _ w)
  · exact face9_walk _ .nilIface false w (fun w => run_typeAssert_lacksB Tryz.underlying175 (by kernel_rfl) (by kernel_rfl) _ _ w)
  · exact face9_walk _ (.iface 108 a) true w (fun w => run_typeAssert_hasB Tryz.underlying175 (by kernel_rfl) _ _ w)
  · exact face9_walk _ .nilIface false w (fun w => run_typeAssert_lacksB Tryz.underlying175 (by kernel_rfl) (by kernel_rfl) _ _ w)
  · exact face9_walk _ .nilIface false w (fun w => run_typeAssert_lacksB Tryz.underlying175 (by kernel_rfl) (by kernel_rfl) _ _ w)
  · exact face9_walk _ .nilIface false w (fun w => run_typeAssert_lacksB Tryz.underlying175 (by kernel_rfl) (by kernel_rfl) _ _ w)
  · exact face9_walk _ .nilIface false w (fun w => run_typeAssert_lacksB Tryz.underlying175 (by kernel_rfl) (by kernel_rfl) _ _ w)
  · exact face9_walk _ .nilIface false w (fun w => run_typeAssert_lacksB Tryz.underlying175 (by kernel_rfl) (by kernel_rfl) _ _ w)
  · exact face9_walk _ .nilIface false w (fun w => run_typeAssert_lacksB Tryz.underlying175 (by kernel_rfl) (by kernel_rfl) _ _ w)
  · exact face9_walk _ .nilIface false w (fun w => run_typeAssert_lacksB Tryz.underlying175 (by kernel_rfl) (by kernel_rfl) _ _ w)
  · exact face9_walk _ .nilIface false w (fun w => run_typeAssert_lacksB Tryz.underlying175 (by kernel_rfl) (by kernel_rfl) _ _ w)

set_option maxRecDepth 100000 in
set_option maxHeartbeats 1000000 in
theorem type1_walk (u x : Value) (b : Bool) (w : World) (h : ∀ w, (Instr.typeAssert u 20 102 true).run Tryz.prog w = .ok (.tuple #[x, .bool b]) w) :
    Calls Tryz.prog 97 #[.agg #[], u] w fun e w' => e = .returned (.bool b) ∧ Below w.heap.size w w' := by
  go_enter Tryz.func97, Tryz.ntmps97
  go_wp2
  go_ret
  exact ⟨rfl, below1 w _⟩
theorem type1_asks : Asks 97 (fun k => k == 1) := by
  intro k u w hk
  rcases hk.cases with ⟨h0, rfl⟩ | ⟨rfl, a, rfl⟩ | ⟨rfl, a, rfl⟩ | ⟨rfl, a, rfl⟩ | ⟨rfl, a, rfl⟩ | ⟨rfl, a, rfl⟩ | ⟨rfl, a, rfl⟩ | ⟨rfl, a, rfl⟩ | ⟨rfl, a, rfl⟩ | ⟨rfl, a, b, rfl, ha, hb⟩ | ⟨rfl, c, a, rfl⟩ | ⟨rfl, a, rfl⟩ | ⟨rfl, rfl⟩ | ⟨rfl, rfl⟩
  · simp only [kd_no h0 1 (by decide) (by decide)]; exact type1_walk _ (.int .i64 0) false w (fun w => assert_nil Tryz.underlying102 (by kernel_rfl))
  · exact type1_walk _ _ _ w (fun w => assert_to (z := .int .i64 0) Tryz.underlying102 (fun m h => by cases h) (by kernel_rfl))
  · exact type1_walk _ _ _ w (fun w => assert_to (z := .int .i64 0) Tryz.underlying102 (fun m h => by cases h) (by kernel_rfl))
  · exact type1_walk _ _ _ w (fun w => assert_to (z := .int .i64 0) Tryz.underlying102 (fun m h => by cases h) (by kernel_rfl))
  · exact type1_walk _ _ _ w (fun w => assert_to (z := .int .i64 0) Tryz.underlying102 (fun m h => by cases h) (by kernel_rfl))
  · exact type1_walk _ _ _ w (fun w => assert_to (z := .int .i64 0) Tryz.underlying102 (fun m h => by cases h) (by kernel_rfl))
  · exact type1_walk _ _ _ w (fun w => assert_to (z := .int .i64 0) Tryz.underlying102 (fun m h => by cases h) (by kernel_rfl))
  · exact type1_walk _ _ _ w (fun w => assert_to (z := .int .i64 0) Tryz.underlying102 (fun m h => by cases h) (by kernel_rfl))
  · exact type1_walk _ _ _ w (fun w => assert_to (z := .int .i64 0) Tryz.underlying102 (fun m h => by cases h) (by kernel_rfl))
  · exact type1_walk _ _ _ w (fun w => assert_to (z := .int .i64 0) Tryz.underlying102 (fun m h => by cases h) (by kernel_rfl))
  · exact type1_walk _ _ _ w (fun w => assert_to (z := .int .i64 0) Tryz.underlying102 (fun m h => by cases h) (by kernel_rfl))
  · exact type1_walk _ _ _ w (fun w => assert_to (z := .int .i64 0) Tryz.underlying102 (fun m h => by cases h) (by kernel_rfl))
  · exact type1_walk _ _ _ w (fun w => assert_to (z := .int .i64 0) Tryz.underlying102 (fun m h => by cases h) (by kernel_rfl))
  · exact type1_walk _ _ _ w (fun w => assert_to (z := .int .i64 0) Tryz.underlying102 (fun m h => by cases h) (by kernel_rfl))

set_option maxRecDepth 100000 in
set_option maxHeartbeats 1000000 in
theorem type2_walk (u x : Value) (b : Bool) (w : World) (h : ∀ w, (Instr.typeAssert u 20 103 true).run Tryz.prog w = .ok (.tuple #[x, .bool b]) w) :
    Calls Tryz.prog 99 #[.agg #[], u] w fun e w' => e = .returned (.bool b) ∧ Below w.heap.size w w' := by
  go_enter Tryz.func99, Tryz.ntmps99
  go_wp2
  go_ret
  exact ⟨rfl, below1 w _⟩
theorem type2_asks : Asks 99 (fun k => k == 2) := by
  intro k u w hk
  rcases hk.cases with ⟨h0, rfl⟩ | ⟨rfl, a, rfl⟩ | ⟨rfl, a, rfl⟩ | ⟨rfl, a, rfl⟩ | ⟨rfl, a, rfl⟩ | ⟨rfl, a, rfl⟩ | ⟨rfl, a, rfl⟩ | ⟨rfl, a, rfl⟩ | ⟨rfl, a, rfl⟩ | ⟨rfl, a, b, rfl, ha, hb⟩ | ⟨rfl, c, a, rfl⟩ | ⟨rfl, a, rfl⟩ | ⟨rfl, rfl⟩ | ⟨rfl, rfl⟩
  · simp only [kd_no h0 2 (by decide) (by decide)]; exact type2_walk _ (.int .i64 0) false w (fun w => assert_nil Tryz.underlying103 (by kernel_rfl))
  · exact type2_walk _ _ _ w (fun w => assert_to (z := .int .i64 0) Tryz.underlying103 (fun m h => by cases h) (by kernel_rfl))
  · exact type2_walk _ _ _ w (fun w => assert_to (z := .int .i64 0) Tryz.underlying103 (fun m h => by cases h) (by kernel_rfl))
  · exact type2_walk _ _ _ w (fun w => assert_to (z := .int .i64 0) Tryz.underlying103 (fun m h => by cases h) (by kernel_rfl))
  · exact type2_walk _ _ _ w (fun w => assert_to (z := .int .i64 0) Tryz.underlying103 (fun m h => by cases h) (by kernel_rfl))
  · exact type2_walk _ _ _ w (fun w => assert_to (z := .int .i64 0) Tryz.underlying103 (fun m h => by cases h) (by kernel_rfl))
  · exact type2_walk _ _ _ w (fun w => assert_to (z := .int .i64 0) Tryz.underlying103 (fun m h => by cases h) (by kernel_rfl))
  · exact type2_walk _ _ _ w (fun w => assert_to (z := .int .i64 0) Tryz.underlying103 (fun m h => by cases h) (by kernel_rfl))
  · exact type2_walk _ _ _ w (fun w => assert_to (z := .int .i64 0) Tryz.underlying103 (fun m h => by cases h) (by kernel_rfl))
  · exact type2_walk _ _ _ w (fun w => assert_to (z := .int .i64 0) Tryz.underlying103 (fun m h => by cases h) (by kernel_rfl))
  · exact type2_walk _ _ _ w (fun w => assert_to (z := .int .i64 0) Tryz.underlying103 (fun m h => by cases h) (by kernel_rfl))
  · exact type2_walk _ _ _ w (fun w => assert_to (z := .int .i64 0) Tryz.underlying103 (fun m h => by cases h) (by kernel_rfl))
  · exact type2_walk _ _ _ w (fun w => assert_to (z := .int .i64 0) Tryz.underlying103 (fun m h => by cases h) (by kernel_rfl))
  · exact type2_walk _ _ _ w (fun w => assert_to (z := .int .i64 0) Tryz.underlying103 (fun m h => by cases h) (by kernel_rfl))

set_option maxRecDepth 100000 in
set_option maxHeartbeats 1000000 in
theorem type3_walk (u x : Value) (b : Bool) (w : World) (h : ∀ w, (Instr.typeAssert u 20 105 true).run Tryz.prog w = .ok (.tuple #[x, .bool b]) w) :
    Calls Tryz.prog 101 #[.agg #[], u] w fun e w' => e = .returned (.bool b) ∧ Below w.heap.size w w' := by
  go_enter Tryz.func101, Tryz.ntmps101
  go_wp2
  go_ret
  exact ⟨rfl, below1 w _⟩
theorem type3_asks : Asks 101 (fun k => k == 3) := by
  intro k u w hk
  rcases hk.cases with ⟨h0, rfl⟩ | ⟨rfl, a, rfl⟩ | ⟨rfl, a, rfl⟩ | ⟨rfl, a, rfl⟩ | ⟨rfl, a, rfl⟩ | ⟨rfl, a, rfl⟩ | ⟨rfl, a, rfl⟩ | ⟨rfl, a, rfl⟩ | ⟨rfl, a, rfl⟩ | ⟨rfl, a, b, rfl, ha, hb⟩ | ⟨rfl, c, a, rfl⟩ | ⟨rfl, a, rfl⟩ | ⟨rfl, rfl⟩ | ⟨rfl, rfl⟩
  · simp only [kd_no h0 3 (by decide) (by decide)]; exact type3_walk _ (.float .f64 0) false w (fun w => assert_nil Tryz.underlying105 (by kernel_rfl))
  · exact type3_walk _ _ _ w (fun w => assert_to (z := .float .f64 0) Tryz.underlying105 (fun m h => by cases h) (by kernel_rfl))
  · exact type3_walk _ _ _ w (fun w => assert_to (z := .float .f64 0) Tryz.underlying105 (fun m h => by cases h) (by kernel_rfl))
  · exact type3_walk _ _ _ w (fun w => assert_to (z := .float .f64 0) Tryz.underlying105 (fun m h => by cases h) (by kernel_rfl))
  · exact type3_walk _ _ _ w (fun w => assert_to (z := .float .f64 0) Tryz.underlying105 (fun m h => by cases h) (by kernel_rfl))
  · exact type3_walk _ _ _ w (fun w => assert_to (z := .float .f64 0) Tryz.underlying105 (fun m h => by cases h) (by kernel_rfl))
  · exact type3_walk _ _ _ w (fun w => assert_to (z := .float .f64 0) Tryz.underlying105 (fun m h => by cases h) (by kernel_rfl))
  · exact type3_walk _ _ _ w (fun w => assert_to (z := .float .f64 0) Tryz.underlying105 (fun m h => by cases h) (by kernel_rfl))
  · exact type3_walk _ _ _ w (fun w => assert_to (z := .float .f64 0) Tryz.underlying105 (fun m h => by cases h) (by kernel_rfl))
  · exact type3_walk _ _ _ w (fun w => assert_to (z := .float .f64 0) Tryz.underlying105 (fun m h => by cases h) (by kernel_rfl))
  · exact type3_walk _ _ _ w (fun w => assert_to (z := .float .f64 0) Tryz.underlying105 (fun m h => by cases h) (by kernel_rfl))
  · exact type3_walk _ _ _ w (fun w => assert_to (z := .float .f64 0) Tryz.underlying105 (fun m h => by cases h) (by kernel_rfl))
  · exact type3_walk _ _ _ w (fun w => assert_to (z := .float .f64 0) Tryz.underlying105 (fun m h => by cases h) (by kernel_rfl))
  · exact type3_walk _ _ _ w (fun w => assert_to (z := .float .f64 0) Tryz.underlying105 (fun m h => by cases h) (by kernel_rfl))

set_option maxRecDepth 100000 in
set_option maxHeartbeats 1000000 in
theorem type4_walk (u x : Value) (b : Bool) (w : World) (h : ∀ w, (Instr.typeAssert u 20 107 true).run Tryz.prog w = .ok (.tuple #[x, .bool b]) w) :
    Calls Tryz.prog 103 #[.agg #[], u] w fun e w' => e = .returned (.bool b) ∧ Below w.heap.size w w' := by
  go_enter Tryz.func103, Tryz.ntmps103
  go_wp2
  go_ret
  exact ⟨rfl, below1 w _⟩
theorem type4_asks : Asks 103 (fun k => k == 4) := by
  intro k u w hk
  rcases hk.cases with ⟨h0, rfl⟩ | ⟨rfl, a, rfl⟩ | ⟨rfl, a, rfl⟩ | ⟨rfl, a, rfl⟩ | ⟨rfl, a, rfl⟩ | ⟨rfl, a, rfl⟩ | ⟨rfl, a, rfl⟩ | ⟨rfl, a, rfl⟩ | ⟨rfl, a, rfl⟩ | ⟨rfl, a, b, rfl, ha, hb⟩ | ⟨rfl, c, a, rfl⟩ | ⟨rfl, a, rfl⟩ | ⟨rfl, rfl⟩ | ⟨rfl, rfl⟩
  · simp only [kd_no h0 4 (by decide) (by decide)]; exact type4_walk _ (.string ⟨#[]⟩) false w (fun w => assert_nil Tryz.underlying107 (by kernel_rfl))
  · exact type4_walk _ _ _ w (fun w => assert_to (z := .string ⟨#[]⟩) Tryz.underlying107 (fun m h => by cases h) (by kernel_rfl))
  · exact type4_walk _ _ _ w (fun w => assert_to (z := .string ⟨#[]⟩) Tryz.underlying107 (fun m h => by cases h) (by kernel_rfl))
  · exact type4_walk _ _ _ w (fun w => assert_to (z := .string ⟨#[]⟩) Tryz.underlying107 (fun m h => by cases h) (by kernel_rfl))
  · exact type4_walk _ _ _ w (fun w => assert_to (z := .string ⟨#[]⟩) Tryz.underlying107 (fun m h => by cases h) (by kernel_rfl))
  · exact type4_walk _ _ _ w (fun w => assert_to (z := .string ⟨#[]⟩) Tryz.underlying107 (fun m h => by cases h) (by kernel_rfl))
  · exact type4_walk _ _ _ w (fun w => assert_to (z := .string ⟨#[]⟩) Tryz.underlying107 (fun m h => by cases h) (by kernel_rfl))
  · exact type4_walk _ _ _ w (fun w => assert_to (z := .string ⟨#[]⟩) Tryz.underlying107 (fun m h => by cases h) (by kernel_rfl))
  · exact type4_walk _ _ _ w (fun w => assert_to (z := .string ⟨#[]⟩) Tryz.underlying107 (fun m h => by cases h) (by kernel_rfl))
  · exact type4_walk _ _ _ w (fun w => assert_to (z := .string ⟨#[]⟩) Tryz.underlying107 (fun m h => by cases h) (by kernel_rfl))
  · exact type4_walk _ _ _ w (fun w => assert_to (z := .string ⟨#[]⟩) Tryz.underlying107 (fun m h => by cases h) (by kernel_rfl))
  · exact type4_walk _ _ _ w (fun w => assert_to (z := .string ⟨#[]⟩) Tryz.underlying107 (fun m h => by cases h) (by kernel_rfl))
  · exact type4_walk _ _ _ w (fun w => assert_to (z := .string ⟨#[]⟩) Tryz.underlying107 (fun m h => by cases h) (by kernel_rfl))
  · exact type4_walk _ _ _ w (fun w => assert_to (z := .string ⟨#[]⟩) Tryz.underlying107 (fun m h => by cases h) (by kernel_rfl))

set_option maxRecDepth 100000 in
set_option maxHeartbeats 1000000 in
theorem type5_walk (u x : Value) (b : Bool) (w : World) (h : ∀ w, (Instr.typeAssert u 20 108 true).run Tryz.prog w = .ok (.tuple #[x, .bool b]) w) :
    Calls Tryz.prog 105 #[.agg #[], u] w fun e w' => e = .returned (.bool b) ∧ Below w.heap.size w w' := by
  go_enter Tryz.func105, Tryz.ntmps105
  go_wp2
  go_ret
  exact ⟨rfl, below1 w _⟩
theorem type5_asks : Asks 105 (fun k => k == 5) := by
  intro k u w hk
  rcases hk.cases with ⟨h0, rfl⟩ | ⟨rfl, a, rfl⟩ | ⟨rfl, a, rfl⟩ | ⟨rfl, a, rfl⟩ | ⟨rfl, a, rfl⟩ | ⟨rfl, a, rfl⟩ | ⟨rfl, a, rfl⟩ | ⟨rfl, a, rfl⟩ | ⟨rfl, a, rfl⟩ | ⟨rfl, a, b, rfl, ha, hb⟩ | ⟨rfl, c, a, rfl⟩ | ⟨rfl, a, rfl⟩ | ⟨rfl, rfl⟩ | ⟨rfl, rfl⟩
  · simp only [kd_no h0 5 (by decide) (by decide)]; exact type5_walk _ (.string ⟨#[]⟩) false w (fun w => assert_nil Tryz.underlying108 (by kernel_rfl))
  · exact type5_walk _ _ _ w (fun w => assert_to (z := .string ⟨#[]⟩) Tryz.underlying108 (fun m h => by cases h) (by kernel_rfl))
  · exact type5_walk _ _ _ w (fun w => assert_to (z := .string ⟨#[]⟩) Tryz.underlying108 (fun m h => by cases h) (by kernel_rfl))
  · exact type5_walk _ _ _ w (fun w => assert_to (z := .string ⟨#[]⟩) Tryz.underlying108 (fun m h => by cases h) (by kernel_rfl))
  · exact type5_walk _ _ _ w (fun w => assert_to (z := .string ⟨#[]⟩) Tryz.underlying108 (fun m h => by cases h) (by kernel_rfl))
  · exact type5_walk _ _ _ w (fun w => assert_to (z := .string ⟨#[]⟩) Tryz.underlying108 (fun m h => by cases h) (by kernel_rfl))
  · exact type5_walk _ _ _ w (fun w => assert_to (z := .string ⟨#[]⟩) Tryz.underlying108 (fun m h => by cases h) (by kernel_rfl))
  · exact type5_walk _ _ _ w (fun w => assert_to (z := .string ⟨#[]⟩) Tryz.underlying108 (fun m h => by cases h) (by kernel_rfl))
  · exact type5_walk _ _ _ w (fun w => assert_to (z := .string ⟨#[]⟩) Tryz.underlying108 (fun m h => by cases h) (by kernel_rfl))
  · exact type5_walk _ _ _ w (fun w => assert_to (z := .string ⟨#[]⟩) Tryz.underlying108 (fun m h => by cases h) (by kernel_rfl))
  · exact type5_walk _ _ _ w (fun w => assert_to (z := .string ⟨#[]⟩) Tryz.underlying108 (fun m h => by cases h) (by kernel_rfl))
  · exact type5_walk _ _ _ w (fun w => assert_to (z := .string ⟨#[]⟩) Tryz.underlying108 (fun m h => by cases h) (by kernel_rfl))
  · exact type5_walk _ _ _ w (fun w => assert_to (z := .string ⟨#[]⟩) Tryz.underlying108 (fun m h => by cases h) (by kernel_rfl))
  · exact type5_walk _ _ _ w (fun w => assert_to (z := .string ⟨#[]⟩) Tryz.underlying108 (fun m h => by cases h) (by kernel_rfl))

set_option maxRecDepth 100000 in
set_option maxHeartbeats 1000000 in
theorem type6_walk (u x : Value) (b : Bool) (w : World) (h : ∀ w, (Instr.typeAssert u 20 109 true).run Tryz.prog w = .ok (.tuple #[x, .bool b]) w) :
    Calls Tryz.prog 107 #[.agg #[], u] w fun e w' => e = .returned (.bool b) ∧ Below w.heap.size w w' := by
  go_enter Tryz.func107, Tryz.ntmps107
  go_wp2
  go_ret
  exact ⟨rfl, below1 w _⟩
theorem type6_asks : Asks 107 (fun k => k == 6) := by
  intro k u w hk
  rcases hk.cases with ⟨h0, rfl⟩ | ⟨rfl, a, rfl⟩ | ⟨rfl, a, rfl⟩ | ⟨rfl, a, rfl⟩ | ⟨rfl, a, rfl⟩ | ⟨rfl, a, rfl⟩ | ⟨rfl, a, rfl⟩ | ⟨rfl, a, rfl⟩ | ⟨rfl, a, rfl⟩ | ⟨rfl, a, b, rfl, ha, hb⟩ | ⟨rfl, c, a, rfl⟩ | ⟨rfl, a, rfl⟩ | ⟨rfl, rfl⟩ | ⟨rfl, rfl⟩
  · simp only [kd_no h0 6 (by decide) (by decide)]; exact type6_walk _ (.bool false) false w (fun w => assert_nil Tryz.underlying109 (by kernel_rfl))
  · exact type6_walk _ _ _ w (fun w => assert_to (z := .bool false) Tryz.underlying109 (fun m h => by cases h) (by kernel_rfl))
  · exact type6_walk _ _ _ w (fun w => assert_to (z := .bool false) Tryz.underlying109 (fun m h => by cases h) (by kernel_rfl))
  · exact type6_walk _ _ _ w (fun w => assert_to (z := .bool false) Tryz.underlying109 (fun m h => by cases h) (by kernel_rfl))
  · exact type6_walk _ _ _ w (fun w => assert_to (z := .bool false) Tryz.underlying109 (fun m h => by cases h) (by kernel_rfl))
  · exact type6_walk _ _ _ w (fun w => assert_to (z := .bool false) Tryz.underlying109 (fun m h => by cases h) (by kernel_rfl))
  · exact type6_walk _ _ _ w (fun w => assert_to (z := .bool false) Tryz.underlying109 (fun m h => by cases h) (by kernel_rfl))
  · exact type6_walk _ _ _ w (fun w => assert_to (z := .bool false) Tryz.underlying109 (fun m h => by cases h) (by kernel_rfl))
  · exact type6_walk _ _ _ w (fun w => assert_to (z := .bool false) Tryz.underlying109 (fun m h => by cases h) (by kernel_rfl))
  · exact type6_walk _ _ _ w (fun w => assert_to (z := .bool false) Tryz.underlying109 (fun m h => by cases h) (by kernel_rfl))
  · exact type6_walk _ _ _ w (fun w => assert_to (z := .bool false) Tryz.underlying109 (fun m h => by cases h) (by kernel_rfl))
  · exact type6_walk _ _ _ w (fun w => assert_to (z := .bool false) Tryz.underlying109 (fun m h => by cases h) (by kernel_rfl))
  · exact type6_walk _ _ _ w (fun w => assert_to (z := .bool false) Tryz.underlying109 (fun m h => by cases h) (by kernel_rfl))
  · exact type6_walk _ _ _ w (fun w => assert_to (z := .bool false) Tryz.underlying109 (fun m h => by cases h) (by kernel_rfl))

set_option maxRecDepth 100000 in
set_option maxHeartbeats 1000000 in
theorem type7_walk (u x : Value) (b : Bool) (w : World) (h : ∀ w, (Instr.typeAssert u 20 112 true).run Tryz.prog w = .ok (.tuple #[x, .bool b]) w) :
    Calls Tryz.prog 109 #[.agg #[], u] w fun e w' => e = .returned (.bool b) ∧ Below w.heap.size w w' := by
  go_enter Tryz.func109, Tryz.ntmps109
  go_wp2
  go_ret
  exact ⟨rfl, below1 w _⟩
theorem type7_asks : Asks 109 (fun k => k == 7) := by
  intro k u w hk
  rcases hk.cases with ⟨h0, rfl⟩ | ⟨rfl, a, rfl⟩ | ⟨rfl, a, rfl⟩ | ⟨rfl, a, rfl⟩ | ⟨rfl, a, rfl⟩ | ⟨rfl, a, rfl⟩ | ⟨rfl, a, rfl⟩ | ⟨rfl, a, rfl⟩ | ⟨rfl, a, rfl⟩ | ⟨rfl, a, b, rfl, ha, hb⟩ | ⟨rfl, c, a, rfl⟩ | ⟨rfl, a, rfl⟩ | ⟨rfl, rfl⟩ | ⟨rfl, rfl⟩
  · simp only [kd_no h0 7 (by decide) (by decide)]; exact type7_walk _ (.slice none 0 0) false w (fun w => assert_nil Tryz.underlying112 (by kernel_rfl))
  · exact type7_walk _ _ _ w (fun w => assert_to (z := .slice none 0 0) Tryz.underlying112 (fun m h => by cases h) (by kernel_rfl))
  · exact type7_walk _ _ _ w (fun w => assert_to (z := .slice none 0 0) Tryz.underlying112 (fun m h => by cases h) (by kernel_rfl))
  · exact type7_walk _ _ _ w (fun w => assert_to (z := .slice none 0 0) Tryz.underlying112 (fun m h => by cases h) (by kernel_rfl))
  · exact type7_walk _ _ _ w (fun w => assert_to (z := .slice none 0 0) Tryz.underlying112 (fun m h => by cases h) (by kernel_rfl))
  · exact type7_walk _ _ _ w (fun w => assert_to (z := .slice none 0 0) Tryz.underlying112 (fun m h => by cases h) (by kernel_rfl))
  · exact type7_walk _ _ _ w (fun w => assert_to (z := .slice none 0 0) Tryz.underlying112 (fun m h => by cases h) (by kernel_rfl))
  · exact type7_walk _ _ _ w (fun w => assert_to (z := .slice none 0 0) Tryz.underlying112 (fun m h => by cases h) (by kernel_rfl))
  · exact type7_walk _ _ _ w (fun w => assert_to (z := .slice none 0 0) Tryz.underlying112 (fun m h => by cases h) (by kernel_rfl))
  · exact type7_walk _ _ _ w (fun w => assert_to (z := .slice none 0 0) Tryz.underlying112 (fun m h => by cases h) (by kernel_rfl))
  · exact type7_walk _ _ _ w (fun w => assert_to (z := .slice none 0 0) Tryz.underlying112 (fun m h => by cases h) (by kernel_rfl))
  · exact type7_walk _ _ _ w (fun w => assert_to (z := .slice none 0 0) Tryz.underlying112 (fun m h => by cases h) (by kernel_rfl))
  · exact type7_walk _ _ _ w (fun w => assert_to (z := .slice none 0 0) Tryz.underlying112 (fun m h => by cases h) (by kernel_rfl))
  · exact type7_walk _ _ _ w (fun w => assert_to (z := .slice none 0 0) Tryz.underlying112 (fun m h => by cases h) (by kernel_rfl))

set_option maxRecDepth 100000 in
set_option maxHeartbeats 1000000 in
theorem type8_walk (u x : Value) (b : Bool) (w : World) (h : ∀ w, (Instr.typeAssert u 20 114 true).run Tryz.prog w = .ok (.tuple #[x, .bool b]) w) :
    Calls Tryz.prog 111 #[.agg #[], u] w fun e w' => e = .returned (.bool b) ∧ Below w.heap.size w w' := by
  go_enter Tryz.func111, Tryz.ntmps111
  go_wp2
  go_ret
  exact ⟨rfl, below1 w _⟩
theorem type8_asks : Asks 111 (fun k => k == 8) := by
  intro k u w hk
  rcases hk.cases with ⟨h0, rfl⟩ | ⟨rfl, a, rfl⟩ | ⟨rfl, a, rfl⟩ | ⟨rfl, a, rfl⟩ | ⟨rfl, a, rfl⟩ | ⟨rfl, a, rfl⟩ | ⟨rfl, a, rfl⟩ | ⟨rfl, a, rfl⟩ | ⟨rfl, a, rfl⟩ | ⟨rfl, a, b, rfl, ha, hb⟩ | ⟨rfl, c, a, rfl⟩ | ⟨rfl, a, rfl⟩ | ⟨rfl, rfl⟩ | ⟨rfl, rfl⟩
  · simp only [kd_no h0 8 (by decide) (by decide)]; exact type8_walk _ (.slice none 0 0) false w (fun w => assert_nil Tryz.underlying114 (by kernel_rfl))
  · exact type8_walk _ _ _ w (fun w => assert_to (z := .slice none 0 0) Tryz.underlying114 (fun m h => by cases h) (by kernel_rfl))
  · exact type8_walk _ _ _ w (fun w => assert_to (z := .slice none 0 0) Tryz.underlying114 (fun m h => by cases h) (by kernel_rfl))
  · exact type8_walk _ _ _ w (fun w => assert_to (z := .slice none 0 0) Tryz.underlying114 (fun m h => by cases h) (by kernel_rfl))
  · exact type8_walk _ _ _ w (fun w => assert_to (z := .slice none 0 0) Tryz.underlying114 (fun m h => by cases h) (by kernel_rfl))
  · exact type8_walk _ _ _ w (fun w => assert_to (z := .slice none 0 0) Tryz.underlying114 (fun m h => by cases h) (by kernel_rfl))
  · exact type8_walk _ _ _ w (fun w => assert_to (z := .slice none 0 0) Tryz.underlying114 (fun m h => by cases h) (by kernel_rfl))
  · exact type8_walk _ _ _ w (fun w => assert_to (z := .slice none 0 0) Tryz.underlying114 (fun m h => by cases h) (by kernel_rfl))
  · exact type8_walk _ _ _ w (fun w => assert_to (z := .slice none 0 0) Tryz.underlying114 (fun m h => by cases h) (by kernel_rfl))
  · exact type8_walk _ _ _ w (fun w => assert_to (z := .slice none 0 0) Tryz.underlying114 (fun m h => by cases h) (by kernel_rfl))
  · exact type8_walk _ _ _ w (fun w => assert_to (z := .slice none 0 0) Tryz.underlying114 (fun m h => by cases h) (by kernel_rfl))
  · exact type8_walk _ _ _ w (fun w => assert_to (z := .slice none 0 0) Tryz.underlying114 (fun m h => by cases h) (by kernel_rfl))
  · exact type8_walk _ _ _ w (fun w => assert_to (z := .slice none 0 0) Tryz.underlying114 (fun m h => by cases h) (by kernel_rfl))
  · exact type8_walk _ _ _ w (fun w => assert_to (z := .slice none 0 0) Tryz.underlying114 (fun m h => by cases h) (by kernel_rfl))

set_option maxRecDepth 100000 in
set_option maxHeartbeats 1000000 in
theorem type9_nn (u : Value) (b : Bool) (w : World) (h : ∀ w, (Instr.typeAssert u 20 117 true).run Tryz.prog w = .ok (.tuple #[.agg #[.nilIface, .nilIface], .bool b]) w) :
    Calls Tryz.prog 113 #[.agg #[], u] w fun e w' => e = .returned (.bool b) ∧ Below w.heap.size w w' := by
  go_enter Tryz.func113, Tryz.ntmps113
  go_wp2
  go_ret
  exact ⟨rfl, by first | exact below2 w _ _ | exact (below2 w _ _).setCell (by simp) _ | exact ((below2 w _ _).setCell (by simp) _).setCell (by simp) _⟩
set_option maxRecDepth 100000 in
set_option maxHeartbeats 1000000 in
theorem type9_nv (u : Value) (T : TypeId) (z : Value) (b : Bool) (w : World) (h : ∀ w, (Instr.typeAssert u 20 117 true).run Tryz.prog w = .ok (.tuple #[.agg #[.nilIface, .iface T z], .bool b]) w) :
    Calls Tryz.prog 113 #[.agg #[], u] w fun e w' => e = .returned (.bool b) ∧ Below w.heap.size w w' := by
  go_enter Tryz.func113, Tryz.ntmps113
  go_wp2
  go_ret
  exact ⟨rfl, by first | exact below2 w _ _ | exact (below2 w _ _).setCell (by simp) _ | exact ((below2 w _ _).setCell (by simp) _).setCell (by simp) _⟩
set_option maxRecDepth 100000 in
set_option maxHeartbeats 1000000 in
theorem type9_vn (u : Value) (T : TypeId) (z : Value) (b : Bool) (w : World) (h : ∀ w, (Instr.typeAssert u 20 117 true).run Tryz.prog w = .ok (.tuple #[.agg #[.iface T z, .nilIface], .bool b]) w) :
    Calls Tryz.prog 113 #[.agg #[], u] w fun e w' => e = .returned (.bool b) ∧ Below w.heap.size w w' := by
  go_enter Tryz.func113, Tryz.ntmps113
  go_wp2
  go_ret
  exact ⟨rfl, by first | exact below2 w _ _ | exact (below2 w _ _).setCell (by simp) _ | exact ((below2 w _ _).setCell (by simp) _).setCell (by simp) _⟩
set_option maxRecDepth 100000 in
set_option maxHeartbeats 1000000 in
theorem type9_vv (u : Value) (T : TypeId) (z : Value) (T' : TypeId) (z' : Value) (b : Bool) (w : World) (h : ∀ w, (Instr.typeAssert u 20 117 true).run Tryz.prog w = .ok (.tuple #[.agg #[.iface T z, .iface T' z'], .bool b]) w) :
    Calls Tryz.prog 113 #[.agg #[], u] w fun e w' => e = .returned (.bool b) ∧ Below w.heap.size w w' := by
  go_enter Tryz.func113, Tryz.ntmps113
  go_wp2
  go_ret
  exact ⟨rfl, by first | exact below2 w _ _ | exact (below2 w _ _).setCell (by simp) _ | exact ((below2 w _ _).setCell (by simp) _).setCell (by simp) _⟩
theorem type9_walk (u x y : Value) (hx : Sx x) (hy : Sx y) (b : Bool) (w : World) (h : ∀ w, (Instr.typeAssert u 20 117 true).run Tryz.prog w = .ok (.tuple #[.agg #[x, y], .bool b]) w) :
    Calls Tryz.prog 113 #[.agg #[], u] w fun e w' => e = .returned (.bool b) ∧ Below w.heap.size w w' := by
  rcases hx with rfl | ⟨T, z, rfl⟩ <;> rcases hy with rfl | ⟨T', z', rfl⟩
  · exact type9_nn u b w h
  · exact type9_nv u _ _ b w h
  · exact type9_vn u _ _ b w h
  · exact type9_vv u _ _ _ _ b w h
theorem type9_asks : Asks 113 (fun k => k == 9) := by
  intro k u w hk
  rcases hk.cases with ⟨h0, rfl⟩ | ⟨rfl, a, rfl⟩ | ⟨rfl, a, rfl⟩ | ⟨rfl, a, rfl⟩ | ⟨rfl, a, rfl⟩ | ⟨rfl, a, rfl⟩ | ⟨rfl, a, rfl⟩ | ⟨rfl, a, rfl⟩ | ⟨rfl, a, rfl⟩ | ⟨rfl, a, b, rfl, ha, hb⟩ | ⟨rfl, c, a, rfl⟩ | ⟨rfl, a, rfl⟩ | ⟨rfl, rfl⟩ | ⟨rfl, rfl⟩
  · simp only [kd_no h0 9 (by decide) (by decide)]; exact type9_walk _ .nilIface .nilIface (.inl rfl) (.inl rfl) false w (fun w => assert_nil Tryz.underlying117 (by kernel_rfl))
  · exact type9_walk _ .nilIface .nilIface (.inl rfl) (.inl rfl) false w (fun w => assert_to (z := .agg #[.nilIface, .nilIface]) Tryz.underlying117 (fun m h => by cases h) (by kernel_rfl))
  · exact type9_walk _ .nilIface .nilIface (.inl rfl) (.inl rfl) false w (fun w => assert_to (z := .agg #[.nilIface, .nilIface]) Tryz.underlying117 (fun m h => by cases h) (by kernel_rfl))
  · exact type9_walk _ .nilIface .nilIface (.inl rfl) (.inl rfl) false w (fun w => assert_to (z := .agg #[.nilIface, .nilIface]) Tryz.underlying117 (fun m h => by cases h) (by kernel_rfl))
  · exact type9_walk _ .nilIface .nilIface (.inl rfl) (.inl rfl) false w (fun w => assert_to (z := .agg #[.nilIface, .nilIface]) Tryz.underlying117 (fun m h => by cases h) (by kernel_rfl))
  · exact type9_walk _ .nilIface .nilIface (.inl rfl) (.inl rfl) false w (fun w => assert_to (z := .agg #[.nilIface, .nilIface]) Tryz.underlying117 (fun m h => by cases h) (by kernel_rfl))
  · exact type9_walk _ .nilIface .nilIface (.inl rfl) (.inl rfl) false w (fun w => assert_to (z := .agg #[.nilIface, .nilIface]) Tryz.underlying117 (fun m h => by cases h) (by kernel_rfl))
  · exact type9_walk _ .nilIface .nilIface (.inl rfl) (.inl rfl) false w (fun w => assert_to (z := .agg #[.nilIface, .nilIface]) Tryz.underlying117 (fun m h => by cases h) (by kernel_rfl))
  · exact type9_walk _ .nilIface .nilIface (.inl rfl) (.inl rfl) false w (fun w => assert_to (z := .agg #[.nilIface, .nilIface]) Tryz.underlying117 (fun m h => by cases h) (by kernel_rfl))
  · exact type9_walk _ a b ha hb true w (fun w => assert_to (z := .agg #[.nilIface, .nilIface]) Tryz.underlying117 (fun m h => by cases h) (by kernel_rfl))
  · exact type9_walk _ .nilIface .nilIface (.inl rfl) (.inl rfl) false w (fun w => assert_to (z := .agg #[.nilIface, .nilIface]) Tryz.underlying117 (fun m h => by cases h) (by kernel_rfl))
  · exact type9_walk _ .nilIface .nilIface (.inl rfl) (.inl rfl) false w (fun w => assert_to (z := .agg #[.nilIface, .nilIface]) Tryz.underlying117 (fun m h => by cases h) (by kernel_rfl))
  · exact type9_walk _ .nilIface .nilIface (.inl rfl) (.inl rfl) false w (fun w => assert_to (z := .agg #[.nilIface, .nilIface]) Tryz.underlying117 (fun m h => by cases h) (by kernel_rfl))
  · exact type9_walk _ .nilIface .nilIface (.inl rfl) (.inl rfl) false w (fun w => assert_to (z := .agg #[.nilIface, .nilIface]) Tryz.underlying117 (fun m h => by cases h) (by kernel_rfl))

set_option maxRecDepth 100000 in
set_option maxHeartbeats 1000000 in
theorem type10_walk (u : Value) (n : Int) (t : ByteArray) (b : Bool) (w : World) (h : ∀ w, (Instr.typeAssert u 20 119 true).run Tryz.prog w = .ok (.tuple #[.agg #[.int .i64 n, .string t], .bool b]) w) :
    Calls Tryz.prog 115 #[.agg #[], u] w fun e w' => e = .returned (.bool b) ∧ Below w.heap.size w w' := by
  go_enter Tryz.func115, Tryz.ntmps115
  go_wp2
  go_ret
  exact ⟨rfl, by first | exact below2 w _ _ | exact (below2 w _ _).setCell (by simp) _ | exact ((below2 w _ _).setCell (by simp) _).setCell (by simp) _⟩
theorem type10_asks : Asks 115 (fun k => k == 10) := by
  intro k u w hk
  rcases hk.cases with ⟨h0, rfl⟩ | ⟨rfl, a, rfl⟩ | ⟨rfl, a, rfl⟩ | ⟨rfl, a, rfl⟩ | ⟨rfl, a, rfl⟩ | ⟨rfl, a, rfl⟩ | ⟨rfl, a, rfl⟩ | ⟨rfl, a, rfl⟩ | ⟨rfl, a, rfl⟩ | ⟨rfl, a, b, rfl, ha, hb⟩ | ⟨rfl, c, a, rfl⟩ | ⟨rfl, a, rfl⟩ | ⟨rfl, rfl⟩ | ⟨rfl, rfl⟩
  · simp only [kd_no h0 10 (by decide) (by decide)]; exact type10_walk _ 0 ⟨#[]⟩ false w (fun w => assert_nil Tryz.underlying119 (by kernel_rfl))
  · exact type10_walk _ 0 ⟨#[]⟩ false w (fun w => assert_to (z := .agg #[.int .i64 0, .string ⟨#[]⟩]) Tryz.underlying119 (fun m h => by cases h) (by kernel_rfl))
  · exact type10_walk _ 0 ⟨#[]⟩ false w (fun w => assert_to (z := .agg #[.int .i64 0, .string ⟨#[]⟩]) Tryz.underlying119 (fun m h => by cases h) (by kernel_rfl))
  · exact type10_walk _ 0 ⟨#[]⟩ false w (fun w => assert_to (z := .agg #[.int .i64 0, .string ⟨#[]⟩]) Tryz.underlying119 (fun m h => by cases h) (by kernel_rfl))
  · exact type10_walk _ 0 ⟨#[]⟩ false w (fun w => assert_to (z := .agg #[.int .i64 0, .string ⟨#[]⟩]) Tryz.underlying119 (fun m h => by cases h) (by kernel_rfl))
  · exact type10_walk _ 0 ⟨#[]⟩ false w (fun w => assert_to (z := .agg #[.int .i64 0, .string ⟨#[]⟩]) Tryz.underlying119 (fun m h => by cases h) (by kernel_rfl))
  · exact type10_walk _ 0 ⟨#[]⟩ false w (fun w => assert_to (z := .agg #[.int .i64 0, .string ⟨#[]⟩]) Tryz.underlying119 (fun m h => by cases h) (by kernel_rfl))
  · exact type10_walk _ 0 ⟨#[]⟩ false w (fun w => assert_to (z := .agg #[.int .i64 0, .string ⟨#[]⟩]) Tryz.underlying119 (fun m h => by cases h) (by kernel_rfl))
  · exact type10_walk _ 0 ⟨#[]⟩ false w (fun w => assert_to (z := .agg #[.int .i64 0, .string ⟨#[]⟩]) Tryz.underlying119 (fun m h => by cases h) (by kernel_rfl))
  · exact type10_walk _ 0 ⟨#[]⟩ false w (fun w => assert_to (z := .agg #[.int .i64 0, .string ⟨#[]⟩]) Tryz.underlying119 (fun m h => by cases h) (by kernel_rfl))
  · exact type10_walk _ c a true w (fun w => assert_to (z := .agg #[.int .i64 0, .string ⟨#[]⟩]) Tryz.underlying119 (fun m h => by cases h) (by kernel_rfl))
  · exact type10_walk _ 0 ⟨#[]⟩ false w (fun w => assert_to (z := .agg #[.int .i64 0, .string ⟨#[]⟩]) Tryz.underlying119 (fun m h => by cases h) (by kernel_rfl))
  · exact type10_walk _ 0 ⟨#[]⟩ false w (fun w => assert_to (z := .agg #[.int .i64 0, .string ⟨#[]⟩]) Tryz.underlying119 (fun m h => by cases h) (by kernel_rfl))
  · exact type10_walk _ 0 ⟨#[]⟩ false w (fun w => assert_to (z := .agg #[.int .i64 0, .string ⟨#[]⟩]) Tryz.underlying119 (fun m h => by cases h) (by kernel_rfl))

set_option maxRecDepth 100000 in
set_option maxHeartbeats 1000000 in
theorem type11_walk (u x : Value) (b : Bool) (w : World) (h : ∀ w, (Instr.typeAssert u 20 120 true).run Tryz.prog w = .ok (.tuple #[x, .bool b]) w) :
    Calls Tryz.prog 117 #[.agg #[], u] w fun e w' => e = .returned (.bool b) ∧ Below w.heap.size w w' := by
  go_enter Tryz.func117, Tryz.ntmps117
  go_wp2
  go_ret
  exact ⟨rfl, below1 w _⟩
theorem type11_asks : Asks 117 (fun k => k == 11 || k == 12) := by
  intro k u w hk
  rcases hk.cases with ⟨h0, rfl⟩ | ⟨rfl, a, rfl⟩ | ⟨rfl, a, rfl⟩ | ⟨rfl, a, rfl⟩ | ⟨rfl, a, rfl⟩ | ⟨rfl, a, rfl⟩ | ⟨rfl, a, rfl⟩ | ⟨rfl, a, rfl⟩ | ⟨rfl, a, rfl⟩ | ⟨rfl, a, b, rfl, ha, hb⟩ | ⟨rfl, c, a, rfl⟩ | ⟨rfl, a, rfl⟩ | ⟨rfl, rfl⟩ | ⟨rfl, rfl⟩
  · simp only [kd_no h0 11 (by decide) (by decide), kd_no h0 12 (by decide) (by decide), Bool.or_false]; exact type11_walk _ (.pointer none) false w (fun w => assert_nil Tryz.underlying120 (by kernel_rfl))
  · exact type11_walk _ _ _ w (fun w => assert_to (z := .pointer none) Tryz.underlying120 (fun m h => by cases h) (by kernel_rfl))
  · exact type11_walk _ _ _ w (fun w => assert_to (z := .pointer none) Tryz.underlying120 (fun m h => by cases h) (by kernel_rfl))
  · exact type11_walk _ _ _ w (fun w => assert_to (z := .pointer none) Tryz.underlying120 (fun m h => by cases h) (by kernel_rfl))
  · exact type11_walk _ _ _ w (fun w => assert_to (z := .pointer none) Tryz.underlying120 (fun m h => by cases h) (by kernel_rfl))
  · exact type11_walk _ _ _ w (fun w => assert_to (z := .pointer none) Tryz.underlying120 (fun m h => by cases h) (by kernel_rfl))
  · exact type11_walk _ _ _ w (fun w => assert_to (z := .pointer none) Tryz.underlying120 (fun m h => by cases h) (by kernel_rfl))
  · exact type11_walk _ _ _ w (fun w => assert_to (z := .pointer none) Tryz.underlying120 (fun m h => by cases h) (by kernel_rfl))
  · exact type11_walk _ _ _ w (fun w => assert_to (z := .pointer none) Tryz.underlying120 (fun m h => by cases h) (by kernel_rfl))
  · exact type11_walk _ _ _ w (fun w => assert_to (z := .pointer none) Tryz.underlying120 (fun m h => by cases h) (by kernel_rfl))
  · exact type11_walk _ _ _ w (fun w => assert_to (z := .pointer none) Tryz.underlying120 (fun m h => by cases h) (by kernel_rfl))
  · exact type11_walk _ _ _ w (fun w => assert_to (z := .pointer none) Tryz.underlying120 (fun m h => by cases h) (by kernel_rfl))
  · exact type11_walk _ _ _ w (fun w => assert_to (z := .pointer none) Tryz.underlying120 (fun m h => by cases h) (by kernel_rfl))
  · exact type11_walk _ _ _ w (fun w => assert_to (z := .pointer none) Tryz.underlying120 (fun m h => by cases h) (by kernel_rfl))

set_option maxRecDepth 100000 in
set_option maxHeartbeats 1000000 in
theorem type13_walk (u : Value) (b : Bool) (w : World) (h : ∀ w, (Instr.typeAssert u 20 122 true).run Tryz.prog w = .ok (.tuple #[.agg #[], .bool b]) w) :
    Calls Tryz.prog 121 #[.agg #[], u] w fun e w' => e = .returned (.bool b) ∧ Below w.heap.size w w' := by
  go_enter Tryz.func121, Tryz.ntmps121
  go_wp2
  go_ret
  exact ⟨rfl, by first | exact below2 w _ _ | exact (below2 w _ _).setCell (by simp) _ | exact ((below2 w _ _).setCell (by simp) _).setCell (by simp) _⟩
theorem type13_asks : Asks 121 (fun k => k == 13) := by
  intro k u w hk
  rcases hk.cases with ⟨h0, rfl⟩ | ⟨rfl, a, rfl⟩ | ⟨rfl, a, rfl⟩ | ⟨rfl, a, rfl⟩ | ⟨rfl, a, rfl⟩ | ⟨rfl, a, rfl⟩ | ⟨rfl, a, rfl⟩ | ⟨rfl, a, rfl⟩ | ⟨rfl, a, rfl⟩ | ⟨rfl, a, b, rfl, ha, hb⟩ | ⟨rfl, c, a, rfl⟩ | ⟨rfl, a, rfl⟩ | ⟨rfl, rfl⟩ | ⟨rfl, rfl⟩
  · simp only [kd_no h0 13 (by decide) (by decide)]; exact type13_walk _ false w (fun w => assert_nil Tryz.underlying122 (by kernel_rfl))
  · exact type13_walk _ false w (fun w => assert_to (z := .agg #[]) Tryz.underlying122 (fun m h => by cases h) (by kernel_rfl))
  · exact type13_walk _ false w (fun w => assert_to (z := .agg #[]) Tryz.underlying122 (fun m h => by cases h) (by kernel_rfl))
  · exact type13_walk _ false w (fun w => assert_to (z := .agg #[]) Tryz.underlying122 (fun m h => by cases h) (by kernel_rfl))
  · exact type13_walk _ false w (fun w => assert_to (z := .agg #[]) Tryz.underlying122 (fun m h => by cases h) (by kernel_rfl))
  · exact type13_walk _ false w (fun w => assert_to (z := .agg #[]) Tryz.underlying122 (fun m h => by cases h) (by kernel_rfl))
  · exact type13_walk _ false w (fun w => assert_to (z := .agg #[]) Tryz.underlying122 (fun m h => by cases h) (by kernel_rfl))
  · exact type13_walk _ false w (fun w => assert_to (z := .agg #[]) Tryz.underlying122 (fun m h => by cases h) (by kernel_rfl))
  · exact type13_walk _ false w (fun w => assert_to (z := .agg #[]) Tryz.underlying122 (fun m h => by cases h) (by kernel_rfl))
  · exact type13_walk _ false w (fun w => assert_to (z := .agg #[]) Tryz.underlying122 (fun m h => by cases h) (by kernel_rfl))
  · exact type13_walk _ false w (fun w => assert_to (z := .agg #[]) Tryz.underlying122 (fun m h => by cases h) (by kernel_rfl))
  · exact type13_walk _ false w (fun w => assert_to (z := .agg #[]) Tryz.underlying122 (fun m h => by cases h) (by kernel_rfl))
  · exact type13_walk _ false w (fun w => assert_to (z := .agg #[]) Tryz.underlying122 (fun m h => by cases h) (by kernel_rfl))
  · exact type13_walk _ true w (fun w => assert_to (z := .agg #[]) Tryz.underlying122 (fun m h => by cases h) (by kernel_rfl))

set_option maxRecDepth 100000 in
set_option maxHeartbeats 1000000 in
theorem typeNo_walk (u : Value) (b : Bool) (w : World) (h : ∀ w, (Instr.typeAssert u 20 177 true).run Tryz.prog w = .ok (.tuple #[.agg #[], .bool b]) w) :
    Calls Tryz.prog 95 #[.agg #[], u] w fun e w' => e = .returned (.bool b) ∧ Below w.heap.size w w' := by
  go_enter Tryz.func95, Tryz.ntmps95
  go_wp2
  go_ret
  exact ⟨rfl, by first | exact below2 w _ _ | exact (below2 w _ _).setCell (by simp) _ | exact ((below2 w _ _).setCell (by simp) _).setCell (by simp) _⟩
theorem typeNo_asks : Asks 95 (fun _ => false) := by
  intro k u w hk
  rcases hk.cases with ⟨h0, rfl⟩ | ⟨rfl, a, rfl⟩ | ⟨rfl, a, rfl⟩ | ⟨rfl, a, rfl⟩ | ⟨rfl, a, rfl⟩ | ⟨rfl, a, rfl⟩ | ⟨rfl, a, rfl⟩ | ⟨rfl, a, rfl⟩ | ⟨rfl, a, rfl⟩ | ⟨rfl, a, b, rfl, ha, hb⟩ | ⟨rfl, c, a, rfl⟩ | ⟨rfl, a, rfl⟩ | ⟨rfl, rfl⟩ | ⟨rfl, rfl⟩
  · exact typeNo_walk _ false w (fun w => assert_nil Tryz.underlying177 (by kernel_rfl))
  · exact typeNo_walk _ false w (fun w => assert_to (z := .agg #[]) Tryz.underlying177 (fun m h => by cases h) (by kernel_rfl))
  · exact typeNo_walk _ false w (fun w => assert_to (z := .agg #[]) Tryz.underlying177 (fun m h => by cases h) (by kernel_rfl))
  · exact typeNo_walk _ false w (fun w => assert_to (z := .agg #[]) Tryz.underlying177 (fun m h => by cases h) (by kernel_rfl))
  · exact typeNo_walk _ false w (fun w => assert_to (z := .agg #[]) Tryz.underlying177 (fun m h => by cases h) (by kernel_rfl))
  · exact typeNo_walk _ false w (fun w => assert_to (z := .agg #[]) Tryz.underlying177 (fun m h => by cases h) (by kernel_rfl))
  · exact typeNo_walk _ false w (fun w => assert_to (z := .agg #[]) Tryz.underlying177 (fun m h => by cases h) (by kernel_rfl))
  · exact typeNo_walk _ false w (fun w => assert_to (z := .agg #[]) Tryz.underlying177 (fun m h => by cases h) (by kernel_rfl))
  · exact typeNo_walk _ false w (fun w => assert_to (z := .agg #[]) Tryz.underlying177 (fun m h => by cases h) (by kernel_rfl))
  · exact typeNo_walk _ false w (fun w => assert_to (z := .agg #[]) Tryz.underlying177 (fun m h => by cases h) (by kernel_rfl))
  · exact typeNo_walk _ false w (fun w => assert_to (z := .agg #[]) Tryz.underlying177 (fun m h => by cases h) (by kernel_rfl))
  · exact typeNo_walk _ false w (fun w => assert_to (z := .agg #[]) Tryz.underlying177 (fun m h => by cases h) (by kernel_rfl))
  · exact typeNo_walk _ false w (fun w => assert_to (z := .agg #[]) Tryz.underlying177 (fun m h => by cases h) (by kernel_rfl))
  · exact typeNo_walk _ false w (fun w => assert_to (z := .agg #[]) Tryz.underlying177 (fun m h => by cases h) (by kernel_rfl))

set_option maxRecDepth 100000 in
set_option maxHeartbeats 1000000 in
theorem type12_walk (u : Value) (b : Bool) (w : World) (h : ∀ w, (binOp .eql 20 u (.iface 120 (.pointer none))).run Tryz.prog w = .ok (.bool b) w) (hg : ∀ w, (eqGuard .eql 20 (.tmp 5) (.tmp 6) u (.iface 120 (.pointer none))).run Tryz.prog w = .ok () w) :
    Calls Tryz.prog 119 #[.agg #[], u] w fun e w' => e = .returned (.bool b) ∧ Below w.heap.size w w' := by
  go_enter Tryz.func119, Tryz.ntmps119
  go_wp2
  go_ret
  exact ⟨rfl, below1 w _⟩
theorem type12_asks : Asks 119 (fun k => k == 12) := by
  intro k u w hk
  rcases hk.cases with ⟨h0, rfl⟩ | ⟨rfl, a, rfl⟩ | ⟨rfl, a, rfl⟩ | ⟨rfl, a, rfl⟩ | ⟨rfl, a, rfl⟩ | ⟨rfl, a, rfl⟩ | ⟨rfl, a, rfl⟩ | ⟨rfl, a, rfl⟩ | ⟨rfl, a, rfl⟩ | ⟨rfl, a, b, rfl, ha, hb⟩ | ⟨rfl, c, a, rfl⟩ | ⟨rfl, a, rfl⟩ | ⟨rfl, rfl⟩ | ⟨rfl, rfl⟩
  · simp only [kd_no h0 12 (by decide) (by decide)]; exact type12_walk _ false w (fun w => by kernel_rfl) (fun w => by kernel_rfl)
  · exact type12_walk _ false w (fun w => run_eql_iface_types _ _ _ _ Tryz.underlying20 (by decide) w) (fun w => by kernel_rfl)
  · exact type12_walk _ false w (fun w => run_eql_iface_types _ _ _ _ Tryz.underlying20 (by decide) w) (fun w => by kernel_rfl)
  · exact type12_walk _ false w (fun w => run_eql_iface_types _ _ _ _ Tryz.underlying20 (by decide) w) (fun w => by kernel_rfl)
  · exact type12_walk _ false w (fun w => run_eql_iface_types _ _ _ _ Tryz.underlying20 (by decide) w) (fun w => by kernel_rfl)
  · exact type12_walk _ false w (fun w => run_eql_iface_types _ _ _ _ Tryz.underlying20 (by decide) w) (fun w => by kernel_rfl)
  · exact type12_walk _ false w (fun w => run_eql_iface_types _ _ _ _ Tryz.underlying20 (by decide) w) (fun w => by kernel_rfl)
  · exact type12_walk _ false w (fun w => run_eql_iface_types _ _ _ _ Tryz.underlying20 (by decide) w) (fun w => by kernel_rfl)
  · exact type12_walk _ false w (fun w => run_eql_iface_types _ _ _ _ Tryz.underlying20 (by decide) w) (fun w => by kernel_rfl)
  · exact type12_walk _ false w (fun w => run_eql_iface_types _ _ _ _ Tryz.underlying20 (by decide) w) (fun w => by kernel_rfl)
  · exact type12_walk _ false w (fun w => run_eql_iface_types _ _ _ _ Tryz.underlying20 (by decide) w) (fun w => by kernel_rfl)
  · exact type12_walk _ false w (fun w => by kernel_rfl) (fun w => by kernel_rfl)
  · exact type12_walk _ true w (fun w => by kernel_rfl) (fun w => by kernel_rfl)
  · exact type12_walk _ false w (fun w => run_eql_iface_types _ _ _ _ Tryz.underlying20 (by decide) w) (fun w => by kernel_rfl)
end Go.Proofs.YtokiaolgdkikiabGreat
