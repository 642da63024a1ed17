/- What each question of the package answers of a value of kind k: of a type whether the kind has it, of an interface whether the kind has all its methods; no condition. -/
import Derived.Test.YtokiaolgdkikiaaGreatBase
namespace Go.Proofs.YtokiaolgdkikiaaGreat
open Go.RowKit

/-- The question that function f asks answers p of a kind. -/
def Asks (f : Nat) (p : Int → Bool) : Prop := ∀ (k : Int) (u : Value) (w : World), Kd k u → Calls Tryz.prog f #[.agg #[], u] w fun e w' => e = .returned (.bool (p k)) ∧ Below w.heap.size w w'

theorem kd_no {k : Int} (h : k < 1 ∨ 13 < k) (j : Int) (h1 : 1 ≤ j) (h2 : j ≤ 13) : (k == j) = false := by simp; omega
theorem impl_no {k : Int} (h : k < 1 ∨ 13 < k) (f : Int) : impl k f = false := by
  unfold impl
  by_cases h0 : 0 < k
  · have : ¬ k < 14 := by omega
    simp [this]
  · simp [h0]

set_option maxRecDepth 100000 in
set_option maxHeartbeats 1000000 in
theorem face0_walk (u x : Value) (b : Bool) (w : World) (h : ∀ w, (Instr.typeAssert u 20 132 true).run Tryz.prog w = .ok (.tuple #[x, .bool b]) w) :
    Calls Tryz.prog 90 #[.agg #[], u] w fun e w' => e = .returned (.bool b) ∧ Below w.heap.size w w' := by
  go_enter Tryz.func90, Tryz.ntmps90
  go_wp2
  go_ret
  exact ⟨rfl, below1 w _⟩
theorem face0_asks : Asks 90 (fun k => impl k 0) := by
  intro k u w hk
  rcases hk.cases with ⟨h0, rfl⟩ | ⟨rfl, a, rfl⟩ | ⟨rfl, a, rfl⟩ | ⟨rfl, a, rfl⟩ | ⟨rfl, a, rfl⟩ | ⟨rfl, a, rfl⟩ | ⟨rfl, a, rfl⟩ | ⟨rfl, a, rfl⟩ | ⟨rfl, a, rfl⟩ | ⟨rfl, a, b, rfl, ha, hb⟩ | ⟨rfl, c, a, rfl⟩ | ⟨rfl, a, rfl⟩ | ⟨rfl, rfl⟩ | ⟨rfl, rfl⟩
  · simp only [impl_no h0]; exact face0_walk _ .nilIface false w (fun w => assert_nil Tryz.underlying132 (by kernel_rfl))
  · exact face0_walk _ .nilIface false w (fun w => run_typeAssert_lacksB Tryz.underlying132 (by kernel_rfl) (by kernel_rfl) _ _ w)
  · exact face0_walk _ .nilIface false w (fun w => run_typeAssert_lacksB Tryz.underlying132 (by kernel_rfl) (by kernel_rfl) _ _ w)
  · exact face0_walk _ .nilIface false w (fun w => run_typeAssert_lacksB Tryz.underlying132 (by kernel_rfl) (by kernel_rfl) _ _ w)
  · exact face0_walk _ (.iface 110 a) true w (fun w => run_typeAssert_hasB Tryz.underlying132 (by kernel_rfl) _ _ w)
  · exact face0_walk _ (.iface 111 a) true w (fun w => run_typeAssert_hasB Tryz.underlying132 (by kernel_rfl) _ _ w)
  · exact face0_walk _ .nilIface false w (fun w => run_typeAssert_lacksB Tryz.underlying132 (by kernel_rfl) (by kernel_rfl) _ _ w)
  · exact face0_walk _ (.iface 115 a) true w (fun w => run_typeAssert_hasB Tryz.underlying132 (by kernel_rfl) _ _ w)
  · exact face0_walk _ (.iface 117 a) true w (fun w => run_typeAssert_hasB Tryz.underlying132 (by kernel_rfl) _ _ w)
  · exact face0_walk _ (.iface 120 (.agg #[a, b])) true w (fun w => run_typeAssert_hasB Tryz.underlying132 (by kernel_rfl) _ _ w)
  · exact face0_walk _ .nilIface false w (fun w => run_typeAssert_lacksB Tryz.underlying132 (by kernel_rfl) (by kernel_rfl) _ _ w)
  · exact face0_walk _ (.iface 123 (.pointer (some a))) true w (fun w => run_typeAssert_hasB Tryz.underlying132 (by kernel_rfl) _ _ w)
  · exact face0_walk _ (.iface 123 (.pointer none)) true w (fun w => run_typeAssert_hasB Tryz.underlying132 (by kernel_rfl) _ _ w)
  · exact face0_walk _ .nilIface false w (fun w => run_typeAssert_lacksB Tryz.underlying132 (by kernel_rfl) (by kernel_rfl) _ _ w)

set_option maxRecDepth 100000 in
set_option maxHeartbeats 1000000 in
theorem face1_walk (u x : Value) (b : Bool) (w : World) (h : ∀ w, (Instr.typeAssert u 20 135 true).run Tryz.prog w = .ok (.tuple #[x, .bool b]) w) :
    Calls Tryz.prog 92 #[.agg #[], u] w fun e w' => e = .returned (.bool b) ∧ Below w.heap.size w w' := by
  go_enter Tryz.func92, Tryz.ntmps92
  go_wp2
  go_ret
  exact ⟨rfl, below1 w _⟩
theorem face1_asks : Asks 92 (fun k => impl k 1) := by
  intro k u w hk
  rcases hk.cases with ⟨h0, rfl⟩ | ⟨rfl, a, rfl⟩ | ⟨rfl, a, rfl⟩ | ⟨rfl, a, rfl⟩ | ⟨rfl, a, rfl⟩ | ⟨rfl, a, rfl⟩ | ⟨rfl, a, rfl⟩ | ⟨rfl, a, rfl⟩ | ⟨rfl, a, rfl⟩ | ⟨rfl, a, b, rfl, ha, hb⟩ | ⟨rfl, c, a, rfl⟩ | ⟨rfl, a, rfl⟩ | ⟨rfl, rfl⟩ | ⟨rfl, rfl⟩
  · simp only [impl_no h0]; exact face1_walk _ .nilIface false w (fun w => assert_nil Tryz.underlying135 (by kernel_rfl))
  · exact face1_walk _ .nilIface false w (fun w => run_typeAssert_lacksB Tryz.underlying135 (by kernel_rfl) (by kernel_rfl) _ _ w)
  · exact face1_walk _ (.iface 106 a) true w (fun w => run_typeAssert_hasB Tryz.underlying135 (by kernel_rfl) _ _ w)
  · exact face1_walk _ .nilIface false w (fun w => run_typeAssert_lacksB Tryz.underlying135 (by kernel_rfl) (by kernel_rfl) _ _ w)
  · exact face1_walk _ .nilIface false w (fun w => run_typeAssert_lacksB Tryz.underlying135 (by kernel_rfl) (by kernel_rfl) _ _ w)
  · exact face1_walk _ (.iface 111 a) true w (fun w => run_typeAssert_hasB Tryz.underlying135 (by kernel_rfl) _ _ w)
  · exact face1_walk _ .nilIface false w (fun w => run_typeAssert_lacksB Tryz.underlying135 (by kernel_rfl) (by kernel_rfl) _ _ w)
  · exact face1_walk _ .nilIface false w (fun w => run_typeAssert_lacksB Tryz.underlying135 (by kernel_rfl) (by kernel_rfl) _ _ w)
  · exact face1_walk _ .nilIface false w (fun w => run_typeAssert_lacksB Tryz.underlying135 (by kernel_rfl) (by kernel_rfl) _ _ w)
  · exact face1_walk _ .nilIface false w (fun w => run_typeAssert_lacksB Tryz.underlying135 (by kernel_rfl) (by kernel_rfl) _ _ w)
  · exact face1_walk _ (.iface 122 (.agg #[.int .i64 c, .string a])) true w (fun w => run_typeAssert_hasB Tryz.underlying135 (by kernel_rfl) _ _ w)
  · exact face1_walk _ .nilIface false w (fun w => run_typeAssert_lacksB Tryz.underlying135 (by kernel_rfl) (by kernel_rfl) _ _ w)
  · exact face1_walk _ .nilIface false w (fun w => run_typeAssert_lacksB Tryz.underlying135 (by kernel_rfl) (by kernel_rfl) _ _ w)
  · exact face1_walk _ .nilIface false w (fun w => run_typeAssert_lacksB Tryz.underlying135 (by kernel_rfl) (by kernel_rfl) _ _ w)

set_option maxRecDepth 100000 in
set_option maxHeartbeats 1000000 in
theorem face2_walk (u x : Value) (b : Bool) (w : World) (h : ∀ w, (Instr.typeAssert u 20 138 true).run Tryz.prog w = .ok (.tuple #[x, .bool b]) w) :
    Calls Tryz.prog 94 #[.agg #[], u] w fun e w' => e = .returned (.bool b) ∧ Below w.heap.size w w' := by
  go_enter Tryz.func94, Tryz.ntmps94
  go_wp2
  go_ret
  exact ⟨rfl, below1 w _⟩
theorem face2_asks : Asks 94 (fun k => impl k 2) := by
  intro k u w hk
  rcases hk.cases with ⟨h0, rfl⟩ | ⟨rfl, a, rfl⟩ | ⟨rfl, a, rfl⟩ | ⟨rfl, a, rfl⟩ | ⟨rfl, a, rfl⟩ | ⟨rfl, a, rfl⟩ | ⟨rfl, a, rfl⟩ | ⟨rfl, a, rfl⟩ | ⟨rfl, a, rfl⟩ | ⟨rfl, a, b, rfl, ha, hb⟩ | ⟨rfl, c, a, rfl⟩ | ⟨rfl, a, rfl⟩ | ⟨rfl, rfl⟩ | ⟨rfl, rfl⟩
  · simp only [impl_no h0]; exact face2_walk _ .nilIface false w (fun w => assert_nil Tryz.underlying138 (by kernel_rfl))
  · exact face2_walk _ .nilIface false w (fun w => run_typeAssert_lacksB Tryz.underlying138 (by kernel_rfl) (by kernel_rfl) _ _ w)
  · exact face2_walk _ .nilIface false w (fun w => run_typeAssert_lacksB Tryz.underlying138 (by kernel_rfl) (by kernel_rfl) _ _ w)
  · exact face2_walk _ .nilIface false w (fun w => run_typeAssert_lacksB Tryz.underlying138 (by kernel_rfl) (by kernel_rfl) _ _ w)
  · exact face2_walk _ .nilIface false w (fun w => run_typeAssert_lacksB Tryz.underlying138 (by kernel_rfl) (by kernel_rfl) _ _ w)
  · exact face2_walk _ .nilIface false w (fun w => run_typeAssert_lacksB Tryz.underlying138 (by kernel_rfl) (by kernel_rfl) _ _ w)
  · exact face2_walk _ .nilIface false w (fun w => run_typeAssert_lacksB Tryz.underlying138 (by kernel_rfl) (by kernel_rfl) _ _ w)
  · exact face2_walk _ .nilIface false w (fun w => run_typeAssert_lacksB Tryz.underlying138 (by kernel_rfl) (by kernel_rfl) _ _ w)
  · exact face2_walk _ .nilIface false w (fun w => run_typeAssert_lacksB Tryz.underlying138 (by kernel_rfl) (by kernel_rfl) _ _ w)
  · exact face2_walk _ .nilIface false w (fun w => run_typeAssert_lacksB Tryz.underlying138 (by kernel_rfl) (by kernel_rfl) _ _ w)
  · exact face2_walk _ (.iface 122 (.agg #[.int .i64 c, .string a])) true w (fun w => run_typeAssert_hasB Tryz.underlying138 (by kernel_rfl) _ _ w)
  · exact face2_walk _ (.iface 123 (.pointer (some a))) true w (fun w => run_typeAssert_hasB Tryz.underlying138 (by kernel_rfl) _ _ w)
  · exact face2_walk _ (.iface 123 (.pointer none)) true w (fun w => run_typeAssert_hasB Tryz.underlying138 (by kernel_rfl) _ _ w)
  · exact face2_walk _ .nilIface false w (fun w => run_typeAssert_lacksB Tryz.underlying138 (by kernel_rfl) (by kernel_rfl) _ _ w)

set_option maxRecDepth 100000 in
set_option maxHeartbeats 1000000 in
theorem face3_walk (u x : Value) (b : Bool) (w : World) (h : ∀ w, (Instr.typeAssert u 20 141 true).run Tryz.prog w = .ok (.tuple #[x, .bool b]) w) :
    Calls Tryz.prog 96 #[.agg #[], u] w fun e w' => e = .returned (.bool b) ∧ Below w.heap.size w w' := by
  go_enter Tryz.func96, Tryz.ntmps96
  go_wp2
  go_ret
  exact ⟨rfl, below1 w _⟩
theorem face3_asks : Asks 96 (fun k => impl k 3) := by
  intro k u w hk
  rcases hk.cases with ⟨h0, rfl⟩ | ⟨rfl, a, rfl⟩ | ⟨rfl, a, rfl⟩ | ⟨rfl, a, rfl⟩ | ⟨rfl, a, rfl⟩ | ⟨rfl, a, rfl⟩ | ⟨rfl, a, rfl⟩ | ⟨rfl, a, rfl⟩ | ⟨rfl, a, rfl⟩ | ⟨rfl, a, b, rfl, ha, hb⟩ | ⟨rfl, c, a, rfl⟩ | ⟨rfl, a, rfl⟩ | ⟨rfl, rfl⟩ | ⟨rfl, rfl⟩
  · simp only [impl_no h0]; exact face3_walk _ .nilIface false w (fun w => assert_nil Tryz.underlying141 (by kernel_rfl))
  · exact face3_walk _ .nilIface false w (fun w => run_typeAssert_lacksB Tryz.underlying141 (by kernel_rfl) (by kernel_rfl) _ _ w)
  · exact face3_walk _ .nilIface false w (fun w => run_typeAssert_lacksB Tryz.underlying141 (by kernel_rfl) (by kernel_rfl) _ _ w)
  · exact face3_walk _ .nilIface false w (fun w => run_typeAssert_lacksB Tryz.underlying141 (by kernel_rfl) (by kernel_rfl) _ _ w)
  · exact face3_walk _ .nilIface false w (fun w => run_typeAssert_lacksB Tryz.underlying141 (by kernel_rfl) (by kernel_rfl) _ _ w)
  · exact face3_walk _ .nilIface false w (fun w => run_typeAssert_lacksB Tryz.underlying141 (by kernel_rfl) (by kernel_rfl) _ _ w)
  · exact face3_walk _ .nilIface false w (fun w => run_typeAssert_lacksB Tryz.underlying141 (by kernel_rfl) (by kernel_rfl) _ _ w)
  · exact face3_walk _ .nilIface false w (fun w => run_typeAssert_lacksB Tryz.underlying141 (by kernel_rfl) (by kernel_rfl) _ _ w)
  · exact face3_walk _ .nilIface false w (fun w => run_typeAssert_lacksB Tryz.underlying141 (by kernel_rfl) (by kernel_rfl) _ _ w)
  · exact face3_walk _ .nilIface false w (fun w => run_typeAssert_lacksB Tryz.underlying141 (by kernel_rfl) (by kernel_rfl) _ _ w)
  · exact face3_walk _ .nilIface false w (fun w => run_typeAssert_lacksB Tryz.underlying141 (by kernel_rfl) (by kernel_rfl) _ _ w)
  · exact face3_walk _ (.iface 123 (.pointer (some a))) true w (fun w => run_typeAssert_hasB Tryz.underlying141 (by kernel_rfl) _ _ w)
  · exact face3_walk _ (.iface 123 (.pointer none)) true w (fun w => run_typeAssert_hasB Tryz.underlying141 (by kernel_rfl) _ _ w)
  · exact face3_walk _ .nilIface false w (fun w => run_typeAssert_lacksB Tryz.underlying141 (by kernel_rfl) (by kernel_rfl) _ _ w)

set_option maxRecDepth 100000 in
set_option maxHeartbeats 1000000 in
theorem face4_walk (u x : Value) (b : Bool) (w : World) (h : ∀ w, (Instr.typeAssert u 20 144 true).run Tryz.prog w = .ok (.tuple #[x, .bool b]) w) :
    Calls Tryz.prog 98 #[.agg #[], u] w fun e w' => e = .returned (.bool b) ∧ Below w.heap.size w w' := by
  go_enter Tryz.func98, Tryz.ntmps98
  go_wp2
  go_ret
  exact ⟨rfl, below1 w _⟩
theorem face4_asks : Asks 98 (fun k => impl k 4) := by
  intro k u w hk
  rcases hk.cases with ⟨h0, rfl⟩ | ⟨rfl, a, rfl⟩ | ⟨rfl, a, rfl⟩ | ⟨rfl, a, rfl⟩ | ⟨rfl, a, rfl⟩ | ⟨rfl, a, rfl⟩ | ⟨rfl, a, rfl⟩ | ⟨rfl, a, rfl⟩ | ⟨rfl, a, rfl⟩ | ⟨rfl, a, b, rfl, ha, hb⟩ | ⟨rfl, c, a, rfl⟩ | ⟨rfl, a, rfl⟩ | ⟨rfl, rfl⟩ | ⟨rfl, rfl⟩
  · simp only [impl_no h0]; exact face4_walk _ .nilIface false w (fun w => assert_nil Tryz.underlying144 (by kernel_rfl))
  · exact face4_walk _ (.iface 105 a) true w (fun w => run_typeAssert_hasB Tryz.underlying144 (by kernel_rfl) _ _ w)
  · exact face4_walk _ (.iface 106 a) true w (fun w => run_typeAssert_hasB Tryz.underlying144 (by kernel_rfl) _ _ w)
  · exact face4_walk _ (.iface 108 a) true w (fun w => run_typeAssert_hasB Tryz.underlying144 (by kernel_rfl) _ _ w)
  · exact face4_walk _ (.iface 110 a) true w (fun w => run_typeAssert_hasB Tryz.underlying144 (by kernel_rfl) _ _ w)
  · exact face4_walk _ (.iface 111 a) true w (fun w => run_typeAssert_hasB Tryz.underlying144 (by kernel_rfl) _ _ w)
  · exact face4_walk _ .nilIface false w (fun w => run_typeAssert_lacksB Tryz.underlying144 (by kernel_rfl) (by kernel_rfl) _ _ w)
  · exact face4_walk _ .nilIface false w (fun w => run_typeAssert_lacksB Tryz.underlying144 (by kernel_rfl) (by kernel_rfl) _ _ w)
  · exact face4_walk _ .nilIface false w (fun w => run_typeAssert_lacksB Tryz.underlying144 (by kernel_rfl) (by kernel_rfl) _ _ w)
  · exact face4_walk _ .nilIface false w (fun w => run_typeAssert_lacksB Tryz.underlying144 (by kernel_rfl) (by kernel_rfl) _ _ w)
  · exact face4_walk _ .nilIface false w (fun w => run_typeAssert_lacksB Tryz.underlying144 (by kernel_rfl) (by kernel_rfl) _ _ w)
  · exact face4_walk _ .nilIface false w (fun w => run_typeAssert_lacksB Tryz.underlying144 (by kernel_rfl) (by kernel_rfl) _ _ w)
  · exact face4_walk _ .nilIface false w (fun w => run_typeAssert_lacksB Tryz.underlying144 (by kernel_rfl) (by kernel_rfl) _ _ w)
  · exact face4_walk _ .nilIface false w (fun w => run_typeAssert_lacksB Tryz.underlying144 (by kernel_rfl) (by kernel_rfl) _ _ w)

set_option maxRecDepth 100000 in
set_option maxHeartbeats 1000000 in
theorem face5_walk (u x : Value) (b : Bool) (w : World) (h : ∀ w, (Instr.typeAssert u 20 147 true).run Tryz.prog w = .ok (.tuple #[x, .bool b]) w) :
    Calls Tryz.prog 100 #[.agg #[], u] w fun e w' => e = .returned (.bool b) ∧ Below w.heap.size w w' := by
  go_enter Tryz.func100, Tryz.ntmps100
  go_wp2
  go_ret
  exact ⟨rfl, below1 w _⟩
theorem face5_asks : Asks 100 (fun k => impl k 5) := by
  intro k u w hk
  rcases hk.cases with ⟨h0, rfl⟩ | ⟨rfl, a, rfl⟩ | ⟨rfl, a, rfl⟩ | ⟨rfl, a, rfl⟩ | ⟨rfl, a, rfl⟩ | ⟨rfl, a, rfl⟩ | ⟨rfl, a, rfl⟩ | ⟨rfl, a, rfl⟩ | ⟨rfl, a, rfl⟩ | ⟨rfl, a, b, rfl, ha, hb⟩ | ⟨rfl, c, a, rfl⟩ | ⟨rfl, a, rfl⟩ | ⟨rfl, rfl⟩ | ⟨rfl, rfl⟩
  · simp only [impl_no h0]; exact face5_walk _ .nilIface false w (fun w => assert_nil Tryz.underlying147 (by kernel_rfl))
  · exact face5_walk _ (.iface 105 a) true w (fun w => run_typeAssert_hasB Tryz.underlying147 (by kernel_rfl) _ _ w)
  · exact face5_walk _ .nilIface false w (fun w => run_typeAssert_lacksB Tryz.underlying147 (by kernel_rfl) (by kernel_rfl) _ _ w)
  · exact face5_walk _ (.iface 108 a) true w (fun w => run_typeAssert_hasB Tryz.underlying147 (by kernel_rfl) _ _ w)
  · exact face5_walk _ .nilIface false w (fun w => run_typeAssert_lacksB Tryz.underlying147 (by kernel_rfl) (by kernel_rfl) _ _ w)
  · exact face5_walk _ .nilIface false w (fun w => run_typeAssert_lacksB Tryz.underlying147 (by kernel_rfl) (by kernel_rfl) _ _ w)
  · exact face5_walk _ .nilIface false w (fun w => run_typeAssert_lacksB Tryz.underlying147 (by kernel_rfl) (by kernel_rfl) _ _ w)
  · exact face5_walk _ .nilIface false w (fun w => run_typeAssert_lacksB Tryz.underlying147 (by kernel_rfl) (by kernel_rfl) _ _ w)
  · exact face5_walk _ .nilIface false w (fun w => run_typeAssert_lacksB Tryz.underlying147 (by kernel_rfl) (by kernel_rfl) _ _ w)
  · exact face5_walk _ .nilIface false w (fun w => run_typeAssert_lacksB Tryz.underlying147 (by kernel_rfl) (by kernel_rfl) _ _ w)
  · exact face5_walk _ .nilIface false w (fun w => run_typeAssert_lacksB Tryz.underlying147 (by kernel_rfl) (by kernel_rfl) _ _ w)
  · exact face5_walk _ .nilIface false w (fun w => run_typeAssert_lacksB Tryz.underlying147 (by kernel_rfl) (by kernel_rfl) _ _ w)
  · exact face5_walk _ .nilIface false w (fun w => run_typeAssert_lacksB Tryz.underlying147 (by kernel_rfl) (by kernel_rfl) _ _ w)
  · exact face5_walk _ .nilIface false w (fun w => run_typeAssert_lacksB Tryz.underlying147 (by kernel_rfl) (by kernel_rfl) _ _ w)

set_option maxRecDepth 100000 in
set_option maxHeartbeats 1000000 in
theorem face6_walk (u x : Value) (b : Bool) (w : World) (h : ∀ w, (Instr.typeAssert u 20 171 true).run Tryz.prog w = .ok (.tuple #[x, .bool b]) w) :
    Calls Tryz.prog 102 #[.agg #[], u] w fun e w' => e = .returned (.bool b) ∧ Below w.heap.size w w' := by
  go_enter Tryz.func102, Tryz.ntmps102
  go_wp2
  go_ret
  exact ⟨rfl, below1 w _⟩
theorem face6_asks : Asks 102 (fun k => impl k 6) := by
  intro k u w hk
  rcases hk.cases with ⟨h0, rfl⟩ | ⟨rfl, a, rfl⟩ | ⟨rfl, a, rfl⟩ | ⟨rfl, a, rfl⟩ | ⟨rfl, a, rfl⟩ | ⟨rfl, a, rfl⟩ | ⟨rfl, a, rfl⟩ | ⟨rfl, a, rfl⟩ | ⟨rfl, a, rfl⟩ | ⟨rfl, a, b, rfl, ha, hb⟩ | ⟨rfl, c, a, rfl⟩ | ⟨rfl, a, rfl⟩ | ⟨rfl, rfl⟩ | ⟨rfl, rfl⟩
  · simp only [impl_no h0]; exact face6_walk _ .nilIface false w (fun w => assert_nil Tryz.underlying171 (by kernel_rfl))
  · exact face6_walk _ .nilIface false w (fun w => run_typeAssert_lacksB Tryz.underlying171 (by kernel_rfl) (by kernel_rfl) _ _ w)
  · exact face6_walk _ .nilIface false w (fun w => run_typeAssert_lacksB Tryz.underlying171 (by kernel_rfl) (by kernel_rfl) _ _ w)
  · exact face6_walk _ .nilIface false w (fun w => run_typeAssert_lacksB Tryz.underlying171 (by kernel_rfl) (by kernel_rfl) _ _ w)
  · exact face6_walk _ .nilIface false w (fun w => run_typeAssert_lacksB Tryz.underlying171 (by kernel_rfl) (by kernel_rfl) _ _ w)
  · exact face6_walk _ (.iface 111 a) true w (fun w => run_typeAssert_hasB Tryz.underlying171 (by kernel_rfl) _ _ w)
  · exact face6_walk _ .nilIface false w (fun w => run_typeAssert_lacksB Tryz.underlying171 (by kernel_rfl) (by kernel_rfl) _ _ w)
  · exact face6_walk _ .nilIface false w (fun w => run_typeAssert_lacksB Tryz.underlying171 (by kernel_rfl) (by kernel_rfl) _ _ w)
  · exact face6_walk _ .nilIface false w (fun w => run_typeAssert_lacksB Tryz.underlying171 (by kernel_rfl) (by kernel_rfl) _ _ w)
  · exact face6_walk _ .nilIface false w (fun w => run_typeAssert_lacksB Tryz.underlying171 (by kernel_rfl) (by kernel_rfl) _ _ w)
  · exact face6_walk _ .nilIface false w (fun w => run_typeAssert_lacksB Tryz.underlying171 (by kernel_rfl) (by kernel_rfl) _ _ w)
  · exact face6_walk _ .nilIface false w (fun w => run_typeAssert_lacksB Tryz.underlying171 (by kernel_rfl) (by kernel_rfl) _ _ w)
  · exact face6_walk _ .nilIface false w (fun w => run_typeAssert_lacksB Tryz.underlying171 (by kernel_rfl) (by kernel_rfl) _ _ w)
  · exact face6_walk _ .nilIface false w (fun w => run_typeAssert_lacksB Tryz.underlying171 (by kernel_rfl) (by kernel_rfl) _ _ w)

set_option maxRecDepth 100000 in
set_option maxHeartbeats 1000000 in
theorem face7_walk (u x : Value) (b : Bool) (w : World) (h : ∀ w, (Instr.typeAssert u 20 174 true).run Tryz.prog w = .ok (.tuple #[x, .bool b]) w) :
    Calls Tryz.prog 104 #[.agg #[], u] w fun e w' => e = .returned (.bool b) ∧ Below w.heap.size w w' := by
  go_enter Tryz.func104, Tryz.ntmps104
  go_wp2
  go_ret
  exact ⟨rfl, below1 w _⟩
theorem face7_asks : Asks 104 (fun k => impl k 7) := by
  intro k u w hk
  rcases hk.cases with ⟨h0, rfl⟩ | ⟨rfl, a, rfl⟩ | ⟨rfl, a, rfl⟩ | ⟨rfl, a, rfl⟩ | ⟨rfl, a, rfl⟩ | ⟨rfl, a, rfl⟩ | ⟨rfl, a, rfl⟩ | ⟨rfl, a, rfl⟩ | ⟨rfl, a, rfl⟩ | ⟨rfl, a, b, rfl, ha, hb⟩ | ⟨rfl, c, a, rfl⟩ | ⟨rfl, a, rfl⟩ | ⟨rfl, rfl⟩ | ⟨rfl, rfl⟩
  · simp only [impl_no h0]; exact face7_walk _ .nilIface false w (fun w => assert_nil Tryz.underlying174 (by kernel_rfl))
  · exact face7_walk _ .nilIface false w (fun w => run_typeAssert_lacksB Tryz.underlying174 (by kernel_rfl) (by kernel_rfl) _ _ w)
  · exact face7_walk _ .nilIface false w (fun w => run_typeAssert_lacksB Tryz.underlying174 (by kernel_rfl) (by kernel_rfl) _ _ w)
  · exact face7_walk _ .nilIface false w (fun w => run_typeAssert_lacksB Tryz.underlying174 (by kernel_rfl) (by kernel_rfl) _ _ w)
  · exact face7_walk _ (.iface 110 a) true w (fun w => run_typeAssert_hasB Tryz.underlying174 (by kernel_rfl) _ _ w)
  · exact face7_walk _ (.iface 111 a) true w (fun w => run_typeAssert_hasB Tryz.underlying174 (by kernel_rfl) _ _ w)
  · exact face7_walk _ .nilIface false w (fun w => run_typeAssert_lacksB Tryz.underlying174 (by kernel_rfl) (by kernel_rfl) _ _ w)
  · exact face7_walk _ .nilIface false w (fun w => run_typeAssert_lacksB Tryz.underlying174 (by kernel_rfl) (by kernel_rfl) _ _ w)
  · exact face7_walk _ .nilIface false w (fun w => run_typeAssert_lacksB Tryz.underlying174 (by kernel_rfl) (by kernel_rfl) _ _ w)
  · exact face7_walk _ .nilIface false w (fun w => run_typeAssert_lacksB Tryz.underlying174 (by kernel_rfl) (by kernel_rfl) _ _ w)
  · exact face7_walk _ .nilIface false w (fun w => run_typeAssert_lacksB Tryz.underlying174 (by kernel_rfl) (by kernel_rfl) _ _ w)
  · exact face7_walk _ .nilIface false w (fun w => run_typeAssert_lacksB Tryz.underlying174 (by kernel_rfl) (by kernel_rfl) _ _ w)
  · exact face7_walk _ .nilIface false w (fun w => run_typeAssert_lacksB Tryz.underlying174 (by kernel_rfl) (by kernel_rfl) _ _ w)
  · exact face7_walk _ .nilIface false w (fun w => run_typeAssert_lacksB Tryz.underlying174 (by kernel_rfl) (by kernel_rfl) _ _ w)

set_option maxRecDepth 100000 in
set_option maxHeartbeats 1000000 in
theorem face8_walk (u x : Value) (b : Bool) (w : World) (h : ∀ w, (Instr.typeAssert u 20 177 true).run Tryz.prog w = .ok (.tuple #[x, .bool b]) w) :
    Calls Tryz.prog 106 #[.agg #[], u] w fun e w' => e = .returned (.bool b) ∧ Below w.heap.size w w' := by
  go_enter Tryz.func106, Tryz.ntmps106
  go_wp2
  go_ret
  exact ⟨rfl, below1 w _⟩
theorem face8_asks : Asks 106 (fun k => impl k 8) := by
  intro k u w hk
  rcases hk.cases with ⟨h0, rfl⟩ | ⟨rfl, a, rfl⟩ | ⟨rfl, a, rfl⟩ | ⟨rfl, a, rfl⟩ | ⟨rfl, a, rfl⟩ | ⟨rfl, a, rfl⟩ | ⟨rfl, a, rfl⟩ | ⟨rfl, a, rfl⟩ | ⟨rfl, a, rfl⟩ | ⟨rfl, a, b, rfl, ha, hb⟩ | ⟨rfl, c, a, rfl⟩ | ⟨rfl, a, rfl⟩ | ⟨rfl, rfl⟩ | ⟨rfl, rfl⟩
  · simp only [impl_no h0]; exact face8_walk _ .nilIface false w (fun w => assert_nil Tryz.underlying177 (by kernel_rfl))
  · exact face8_walk _ (.iface 105 a) true w (fun w => run_typeAssert_hasB Tryz.underlying177 (by kernel_rfl) _ _ w)
  · exact face8_walk _ .nilIface false w (fun w => run_typeAssert_lacksB Tryz.underlying177 (by kernel_rfl) (by kernel_rfl) _ _ w)
  · exact face8_walk _ (.iface 108 a) true w (fun w => run_typeAssert_hasB Tryz.underlying177 (by kernel_rfl) _ _ w)
  · exact face8_walk _ .nilIface false w (fun w => run_typeAssert_lacksB Tryz.underlying177 (by kernel_rfl) (by kernel_rfl) _ _ w)
  · exact face8_walk _ .nilIface false w (fun w => run_typeAssert_lacksB Tryz.underlying177 (by kernel_rfl) (by kernel_rfl) _ _ w)
  · exact face8_walk _ .nilIface false w (fun w => run_typeAssert_lacksB Tryz.underlying177 (by kernel_rfl) (by kernel_rfl) _ _ w)
  · exact face8_walk _ .nilIface false w (fun w => run_typeAssert_lacksB Tryz.underlying177 (by kernel_rfl) (by kernel_rfl) _ _ w)
  · exact face8_walk _ .nilIface false w (fun w => run_typeAssert_lacksB Tryz.underlying177 (by kernel_rfl) (by kernel_rfl) _ _ w)
  · exact face8_walk _ .nilIface false w (fun w => run_typeAssert_lacksB Tryz.underlying177 (by kernel_rfl) (by kernel_rfl) _ _ w)
  · exact face8_walk _ .nilIface false w (fun w => run_typeAssert_lacksB Tryz.underlying177 (by kernel_rfl) (by kernel_rfl) _ _ w)
  · exact face8_walk _ .nilIface false w (fun w => run_typeAssert_lacksB Tryz.underlying177 (by kernel_rfl) (by kernel_rfl) _ _ w)
  · exact face8_walk _ .nilIface false w (fun w => run_typeAssert_lacksB Tryz.underlying177 (by kernel_rfl) (by kernel_rfl) _ _ w)
  · exact face8_walk _ .nilIface false w (fun w => run_typeAssert_lacksB Tryz.underlying177 (by kernel_rfl) (by kernel_rfl) _ _ w)

set_option maxRecDepth 100000 in
set_option maxHeartbeats 1000000 in
theorem face9_walk (u x : Value) (b : Bool) (w : World) (h : ∀ w, (Instr.typeAssert u 20 180 true).run Tryz.prog w = .ok (.tuple #[x, .bool b]) w) :
    Calls Tryz.prog 108 #[.agg #[], u] w fun e w' => e = .returned (.bool b) ∧ Below w.heap.size w w' := by
  go_enter Tryz.func108, Tryz.ntmps108
  go_wp2
  go_ret
  exact ⟨rfl, below1 w _⟩
theorem face9_asks : Asks 108 (fun k => impl k 9) := by
  intro k u w hk
  rcases hk.cases with ⟨h0, rfl⟩ | ⟨rfl, a, rfl⟩ | ⟨rfl, a, rfl⟩ | ⟨rfl, a, rfl⟩ | ⟨rfl, a, rfl⟩ | ⟨rfl, a, rfl⟩ | ⟨rfl, a, rfl⟩ | ⟨rfl, a, rfl⟩ | ⟨rfl, a, rfl⟩ | ⟨rfl, a, b, rfl, ha, hb⟩ | ⟨rfl, c, a, rfl⟩ | ⟨rfl, a, rfl⟩ | ⟨rfl, rfl⟩ | ⟨rfl, rfl⟩
  · simp only [impl_no h0]; exact face9_walk _ .nilIface false w (fun w => assert_nil Tryz.underlying180 (by kernel_rfl))
  · exact face9_walk _ .nilIface false w (fun w => run_typeAssert_lacksB Tryz.underlying180 (by kernel_rfl) (by kernel_rfl) _ _ w)
  · exact face9_walk _ .nilIface false w (fun w => run_typeAssert_lacksB Tryz.underlying180 (by kernel_rfl) (by kernel_rfl) _ _ w)
  · exact face9_walk _ .nilIface false w (fun w => run_typeAssert_lacksB Tryz.underlying180 (by kernel_rfl) (by kernel_rfl) _ _ w)
  · exact face9_walk _ .nilIface false w (fun w => run_typeAssert_lacksB Tryz.underlying180 (by kernel_rfl) (by kernel_rfl) _ _ w)
  · exact face9_walk _ (.iface 111 a) true w (fun w => run_typeAssert_hasB Tryz.underlying180 (by kernel_rfl) _ _ w)
  · exact face9_walk _ .nilIface false w (fun w => run_typeAssert_lacksB Tryz.underlying180 (by kernel_rfl) (by kernel_rfl) _ _ w)
  · exact face9_walk _ .nilIface false w (fun w => run_typeAssert_lacksB Tryz.underlying180 (by kernel_rfl) (by kernel_rfl) _ _ w)
  · exact face9_walk _ .nilIface false w (fun w => run_typeAssert_lacksB Tryz.underlying180 (by kernel_rfl) (by kernel_rfl) _ _ w)
  · exact face9_walk _ .nilIface false w (fun w => run_typeAssert_lacksB Tryz.underlying180 (by kernel_rfl) (by kernel_rfl) _ _ w)
  · exact face9_walk _ .nilIface false w (fun w => run_typeAssert_lacksB Tryz.underlying180 (by kernel_rfl) (by kernel_rfl) _ _ w)
  · exact face9_walk _ .nilIface false w (fun w => run_typeAssert_lacksB Tryz.underlying180 (by kernel_rfl) (by kernel_rfl) _ _ w)
  · exact face9_walk _ .nilIface false w (fun w => run_typeAssert_lacksB Tryz.underlying180 (by kernel_rfl) (by kernel_rfl) _ _ w)
  · exact face9_walk _ .nilIface false w (fun w => run_typeAssert_lacksB Tryz.underlying180 (by kernel_rfl) (by kernel_rfl) _ _ w)

set_option maxRecDepth 100000 in
set_option maxHeartbeats 1000000 in
theorem type1_walk (u x : Value) (b : Bool) (w : World) (h : ∀ w, (Instr.typeAssert u 20 105 true).run Tryz.prog w = .ok (.tuple #[x, .bool b]) w) :
    Calls Tryz.prog 112 #[.agg #[], u] w fun e w' => e = .returned (.bool b) ∧ Below w.heap.size w w' := by
  go_enter Tryz.func112, Tryz.ntmps112
  go_wp2
  go_ret
  exact ⟨rfl, below1 w _⟩
theorem type1_asks : Asks 112 (fun k => k == 1) := by
  intro k u w hk
  rcases hk.cases with ⟨h0, rfl⟩ | ⟨rfl, a, rfl⟩ | ⟨rfl, a, rfl⟩ | ⟨rfl, a, rfl⟩ | ⟨rfl, a, rfl⟩ | ⟨rfl, a, rfl⟩ | ⟨rfl, a, rfl⟩ | ⟨rfl, a, rfl⟩ | ⟨rfl, a, rfl⟩ | ⟨rfl, a, b, rfl, ha, hb⟩ | ⟨rfl, c, a, rfl⟩ | ⟨rfl, a, rfl⟩ | ⟨rfl, rfl⟩ | ⟨rfl, rfl⟩
  · simp only [kd_no h0 1 (by decide) (by decide)]; exact type1_walk _ (.int .i64 0) false w (fun w => assert_nil Tryz.underlying105 (by kernel_rfl))
  · exact type1_walk _ _ _ w (fun w => assert_to (z := .int .i64 0) Tryz.underlying105 (fun m h => by cases h) (by kernel_rfl))
  · exact type1_walk _ _ _ w (fun w => assert_to (z := .int .i64 0) Tryz.underlying105 (fun m h => by cases h) (by kernel_rfl))
  · exact type1_walk _ _ _ w (fun w => assert_to (z := .int .i64 0) Tryz.underlying105 (fun m h => by cases h) (by kernel_rfl))
  · exact type1_walk _ _ _ w (fun w => assert_to (z := .int .i64 0) Tryz.underlying105 (fun m h => by cases h) (by kernel_rfl))
  · exact type1_walk _ _ _ w (fun w => assert_to (z := .int .i64 0) Tryz.underlying105 (fun m h => by cases h) (by kernel_rfl))
  · exact type1_walk _ _ _ w (fun w => assert_to (z := .int .i64 0) Tryz.underlying105 (fun m h => by cases h) (by kernel_rfl))
  · exact type1_walk _ _ _ w (fun w => assert_to (z := .int .i64 0) Tryz.underlying105 (fun m h => by cases h) (by kernel_rfl))
  · exact type1_walk _ _ _ w (fun w => assert_to (z := .int .i64 0) Tryz.underlying105 (fun m h => by cases h) (by kernel_rfl))
  · exact type1_walk _ _ _ w (fun w => assert_to (z := .int .i64 0) Tryz.underlying105 (fun m h => by cases h) (by kernel_rfl))
  · exact type1_walk _ _ _ w (fun w => assert_to (z := .int .i64 0) Tryz.underlying105 (fun m h => by cases h) (by kernel_rfl))
  · exact type1_walk _ _ _ w (fun w => assert_to (z := .int .i64 0) Tryz.underlying105 (fun m h => by cases h) (by kernel_rfl))
  · exact type1_walk _ _ _ w (fun w => assert_to (z := .int .i64 0) Tryz.underlying105 (fun m h => by cases h) (by kernel_rfl))
  · exact type1_walk _ _ _ w (fun w => assert_to (z := .int .i64 0) Tryz.underlying105 (fun m h => by cases h) (by kernel_rfl))

set_option maxRecDepth 100000 in
set_option maxHeartbeats 1000000 in
theorem type2_walk (u x : Value) (b : Bool) (w : World) (h : ∀ w, (Instr.typeAssert u 20 106 true).run Tryz.prog w = .ok (.tuple #[x, .bool b]) w) :
    Calls Tryz.prog 114 #[.agg #[], u] w fun e w' => e = .returned (.bool b) ∧ Below w.heap.size w w' := by
  go_enter Tryz.func114, Tryz.ntmps114
  go_wp2
  go_ret
  exact ⟨rfl, below1 w _⟩
theorem type2_asks : Asks 114 (fun k => k == 2) := by
  intro k u w hk
  rcases hk.cases with ⟨h0, rfl⟩ | ⟨rfl, a, rfl⟩ | ⟨rfl, a, rfl⟩ | ⟨rfl, a, rfl⟩ | ⟨rfl, a, rfl⟩ | ⟨rfl, a, rfl⟩ | ⟨rfl, a, rfl⟩ | ⟨rfl, a, rfl⟩ | ⟨rfl, a, rfl⟩ | ⟨rfl, a, b, rfl, ha, hb⟩ | ⟨rfl, c, a, rfl⟩ | ⟨rfl, a, rfl⟩ | ⟨rfl, rfl⟩ | ⟨rfl, rfl⟩
  · simp only [kd_no h0 2 (by decide) (by decide)]; exact type2_walk _ (.int .i64 0) false w (fun w => assert_nil Tryz.underlying106 (by kernel_rfl))
  · exact type2_walk _ _ _ w (fun w => assert_to (z := .int .i64 0) Tryz.underlying106 (fun m h => by cases h) (by kernel_rfl))
  · exact type2_walk _ _ _ w (fun w => assert_to (z := .int .i64 0) Tryz.underlying106 (fun m h => by cases h) (by kernel_rfl))
  · exact type2_walk _ _ _ w (fun w => assert_to (z := .int .i64 0) Tryz.underlying106 (fun m h => by cases h) (by kernel_rfl))
  · exact type2_walk _ _ _ w (fun w => assert_to (z := .int .i64 0) Tryz.underlying106 (fun m h => by cases h) (by kernel_rfl))
  · exact type2_walk _ _ _ w (fun w => assert_to (z := .int .i64 0) Tryz.underlying106 (fun m h => by cases h) (by kernel_rfl))
  · exact type2_walk _ _ _ w (fun w => assert_to (z := .int .i64 0) Tryz.underlying106 (fun m h => by cases h) (by kernel_rfl))
  · exact type2_walk _ _ _ w (fun w => assert_to (z := .int .i64 0) Tryz.underlying106 (fun m h => by cases h) (by kernel_rfl))
  · exact type2_walk _ _ _ w (fun w => assert_to (z := .int .i64 0) Tryz.underlying106 (fun m h => by cases h) (by kernel_rfl))
  · exact type2_walk _ _ _ w (fun w => assert_to (z := .int .i64 0) Tryz.underlying106 (fun m h => by cases h) (by kernel_rfl))
  · exact type2_walk _ _ _ w (fun w => assert_to (z := .int .i64 0) Tryz.underlying106 (fun m h => by cases h) (by kernel_rfl))
  · exact type2_walk _ _ _ w (fun w => assert_to (z := .int .i64 0) Tryz.underlying106 (fun m h => by cases h) (by kernel_rfl))
  · exact type2_walk _ _ _ w (fun w => assert_to (z := .int .i64 0) Tryz.underlying106 (fun m h => by cases h) (by kernel_rfl))
  · exact type2_walk _ _ _ w (fun w => assert_to (z := .int .i64 0) Tryz.underlying106 (fun m h => by cases h) (by kernel_rfl))

set_option maxRecDepth 100000 in
set_option maxHeartbeats 1000000 in
theorem type3_walk (u x : Value) (b : Bool) (w : World) (h : ∀ w, (Instr.typeAssert u 20 108 true).run Tryz.prog w = .ok (.tuple #[x, .bool b]) w) :
    Calls Tryz.prog 116 #[.agg #[], u] w fun e w' => e = .returned (.bool b) ∧ Below w.heap.size w w' := by
  go_enter Tryz.func116, Tryz.ntmps116
  go_wp2
  go_ret
  exact ⟨rfl, below1 w _⟩
theorem type3_asks : Asks 116 (fun k => k == 3) := by
  intro k u w hk
  rcases hk.cases with ⟨h0, rfl⟩ | ⟨rfl, a, rfl⟩ | ⟨rfl, a, rfl⟩ | ⟨rfl, a, rfl⟩ | ⟨rfl, a, rfl⟩ | ⟨rfl, a, rfl⟩ | ⟨rfl, a, rfl⟩ | ⟨rfl, a, rfl⟩ | ⟨rfl, a, rfl⟩ | ⟨rfl, a, b, rfl, ha, hb⟩ | ⟨rfl, c, a, rfl⟩ | ⟨rfl, a, rfl⟩ | ⟨rfl, rfl⟩ | ⟨rfl, rfl⟩
  · simp only [kd_no h0 3 (by decide) (by decide)]; exact type3_walk _ (.float .f64 0) false w (fun w => assert_nil Tryz.underlying108 (by kernel_rfl))
  · exact type3_walk _ _ _ w (fun w => assert_to (z := .float .f64 0) Tryz.underlying108 (fun m h => by cases h) (by kernel_rfl))
  · exact type3_walk _ _ _ w (fun w => assert_to (z := .float .f64 0) Tryz.underlying108 (fun m h => by cases h) (by kernel_rfl))
  · exact type3_walk _ _ _ w (fun w => assert_to (z := .float .f64 0) Tryz.underlying108 (fun m h => by cases h) (by kernel_rfl))
  · exact type3_walk _ _ _ w (fun w => assert_to (z := .float .f64 0) Tryz.underlying108 (fun m h => by cases h) (by kernel_rfl))
  · exact type3_walk _ _ _ w (fun w => assert_to (z := .float .f64 0) Tryz.underlying108 (fun m h => by cases h) (by kernel_rfl))
  · exact type3_walk _ _ _ w (fun w => assert_to (z := .float .f64 0) Tryz.underlying108 (fun m h => by cases h) (by kernel_rfl))
  · exact type3_walk _ _ _ w (fun w => assert_to (z := .float .f64 0) Tryz.underlying108 (fun m h => by cases h) (by kernel_rfl))
  · exact type3_walk _ _ _ w (fun w => assert_to (z := .float .f64 0) Tryz.underlying108 (fun m h => by cases h) (by kernel_rfl))
  · exact type3_walk _ _ _ w (fun w => assert_to (z := .float .f64 0) Tryz.underlying108 (fun m h => by cases h) (by kernel_rfl))
  · exact type3_walk _ _ _ w (fun w => assert_to (z := .float .f64 0) Tryz.underlying108 (fun m h => by cases h) (by kernel_rfl))
  · exact type3_walk _ _ _ w (fun w => assert_to (z := .float .f64 0) Tryz.underlying108 (fun m h => by cases h) (by kernel_rfl))
  · exact type3_walk _ _ _ w (fun w => assert_to (z := .float .f64 0) Tryz.underlying108 (fun m h => by cases h) (by kernel_rfl))
  · exact type3_walk _ _ _ w (fun w => assert_to (z := .float .f64 0) Tryz.underlying108 (fun m h => by cases h) (by kernel_rfl))

set_option maxRecDepth 100000 in
set_option maxHeartbeats 1000000 in
theorem type4_walk (u x : Value) (b : Bool) (w : World) (h : ∀ w, (Instr.typeAssert u 20 110 true).run Tryz.prog w = .ok (.tuple #[x, .bool b]) w) :
    Calls Tryz.prog 118 #[.agg #[], u] w fun e w' => e = .returned (.bool b) ∧ Below w.heap.size w w' := by
  go_enter Tryz.func118, Tryz.ntmps118
  go_wp2
  go_ret
  exact ⟨rfl, below1 w _⟩
theorem type4_asks : Asks 118 (fun k => k == 4) := by
  intro k u w hk
  rcases hk.cases with ⟨h0, rfl⟩ | ⟨rfl, a, rfl⟩ | ⟨rfl, a, rfl⟩ | ⟨rfl, a, rfl⟩ | ⟨rfl, a, rfl⟩ | ⟨rfl, a, rfl⟩ | ⟨rfl, a, rfl⟩ | ⟨rfl, a, rfl⟩ | ⟨rfl, a, rfl⟩ | ⟨rfl, a, b, rfl, ha, hb⟩ | ⟨rfl, c, a, rfl⟩ | ⟨rfl, a, rfl⟩ | ⟨rfl, rfl⟩ | ⟨rfl, rfl⟩
  · simp only [kd_no h0 4 (by decide) (by decide)]; exact type4_walk _ (.string ⟨#[]⟩) false w (fun w => assert_nil Tryz.underlying110 (by kernel_rfl))
  · exact type4_walk _ _ _ w (fun w => assert_to (z := .string ⟨#[]⟩) Tryz.underlying110 (fun m h => by cases h) (by kernel_rfl))
  · exact type4_walk _ _ _ w (fun w => assert_to (z := .string ⟨#[]⟩) Tryz.underlying110 (fun m h => by cases h) (by kernel_rfl))
  · exact type4_walk _ _ _ w (fun w => assert_to (z := .string ⟨#[]⟩) Tryz.underlying110 (fun m h => by cases h) (by kernel_rfl))
  · exact type4_walk _ _ _ w (fun w => assert_to (z := .string ⟨#[]⟩) Tryz.underlying110 (fun m h => by cases h) (by kernel_rfl))
  · exact type4_walk _ _ _ w (fun w => assert_to (z := .string ⟨#[]⟩) Tryz.underlying110 (fun m h => by cases h) (by kernel_rfl))
  · exact type4_walk _ _ _ w (fun w => assert_to (z := .string ⟨#[]⟩) Tryz.underlying110 (fun m h => by cases h) (by kernel_rfl))
  · exact type4_walk _ _ _ w (fun w => assert_to (z := .string ⟨#[]⟩) Tryz.underlying110 (fun m h => by cases h) (by kernel_rfl))
  · exact type4_walk _ _ _ w (fun w => assert_to (z := .string ⟨#[]⟩) Tryz.underlying110 (fun m h => by cases h) (by kernel_rfl))
  · exact type4_walk _ _ _ w (fun w => assert_to (z := .string ⟨#[]⟩) Tryz.underlying110 (fun m h => by cases h) (by kernel_rfl))
  · exact type4_walk _ _ _ w (fun w => assert_to (z := .string ⟨#[]⟩) Tryz.underlying110 (fun m h => by cases h) (by kernel_rfl))
  · exact type4_walk _ _ _ w (fun w => assert_to (z := .string ⟨#[]⟩) Tryz.underlying110 (fun m h => by cases h) (by kernel_rfl))
  · exact type4_walk _ _ _ w (fun w => assert_to (z := .string ⟨#[]⟩) Tryz.underlying110 (fun m h => by cases h) (by kernel_rfl))
  · exact type4_walk _ _ _ w (fun w => assert_to (z := .string ⟨#[]⟩) Tryz.underlying110 (fun m h => by cases h) (by kernel_rfl))

set_option maxRecDepth 100000 in
set_option maxHeartbeats 1000000 in
theorem type5_walk (u x : Value) (b : Bool) (w : World) (h : ∀ w, (Instr.typeAssert u 20 111 true).run Tryz.prog w = .ok (.tuple #[x, .bool b]) w) :
    Calls Tryz.prog 120 #[.agg #[], u] w fun e w' => e = .returned (.bool b) ∧ Below w.heap.size w w' := by
  go_enter Tryz.func120, Tryz.ntmps120
  go_wp2
  go_ret
  exact ⟨rfl, below1 w _⟩
theorem type5_asks : Asks 120 (fun k => k == 5) := by
  intro k u w hk
  rcases hk.cases with ⟨h0, rfl⟩ | ⟨rfl, a, rfl⟩ | ⟨rfl, a, rfl⟩ | ⟨rfl, a, rfl⟩ | ⟨rfl, a, rfl⟩ | ⟨rfl, a, rfl⟩ | ⟨rfl, a, rfl⟩ | ⟨rfl, a, rfl⟩ | ⟨rfl, a, rfl⟩ | ⟨rfl, a, b, rfl, ha, hb⟩ | ⟨rfl, c, a, rfl⟩ | ⟨rfl, a, rfl⟩ | ⟨rfl, rfl⟩ | ⟨rfl, rfl⟩
  · simp only [kd_no h0 5 (by decide) (by decide)]; exact type5_walk _ (.string ⟨#[]⟩) false w (fun w => assert_nil Tryz.underlying111 (by kernel_rfl))
  · exact type5_walk _ _ _ w (fun w => assert_to (z := .string ⟨#[]⟩) Tryz.underlying111 (fun m h => by cases h) (by kernel_rfl))
  · exact type5_walk _ _ _ w (fun w => assert_to (z := .string ⟨#[]⟩) Tryz.underlying111 (fun m h => by cases h) (by kernel_rfl))
  · exact type5_walk _ _ _ w (fun w => assert_to (z := .string ⟨#[]⟩) Tryz.underlying111 (fun m h => by cases h) (by kernel_rfl))
  · exact type5_walk _ _ _ w (fun w => assert_to (z := .string ⟨#[]⟩) Tryz.underlying111 (fun m h => by cases h) (by kernel_rfl))
  · exact type5_walk _ _ _ w (fun w => assert_to (z := .string ⟨#[]⟩) Tryz.underlying111 (fun m h => by cases h) (by kernel_rfl))
  · exact type5_walk _ _ _ w (fun w => assert_to (z := .string ⟨#[]⟩) Tryz.underlying111 (fun m h => by cases h) (by kernel_rfl))
  · exact type5_walk _ _ _ w (fun w => assert_to (z := .string ⟨#[]⟩) Tryz.underlying111 (fun m h => by cases h) (by kernel_rfl))
  · exact type5_walk _ _ _ w (fun w => assert_to (z := .string ⟨#[]⟩) Tryz.underlying111 (fun m h => by cases h) (by kernel_rfl))
  · exact type5_walk _ _ _ w (fun w => assert_to (z := .string ⟨#[]⟩) Tryz.underlying111 (fun m h => by cases h) (by kernel_rfl))
  · exact type5_walk _ _ _ w (fun w => assert_to (z := .string ⟨#[]⟩) Tryz.underlying111 (fun m h => by cases h) (by kernel_rfl))
  · exact type5_walk _ _ _ w (fun w => assert_to (z := .string ⟨#[]⟩) Tryz.underlying111 (fun m h => by cases h) (by kernel_rfl))
  · exact type5_walk _ _ _ w (fun w => assert_to (z := .string ⟨#[]⟩) Tryz.underlying111 (fun m h => by cases h) (by kernel_rfl))
  · exact type5_walk _ _ _ w (fun w => assert_to (z := .string ⟨#[]⟩) Tryz.underlying111 (fun m h => by cases h) (by kernel_rfl))

set_option maxRecDepth 100000 in
set_option maxHeartbeats 1000000 in
theorem type6_walk (u x : Value) (b : Bool) (w : World) (h : ∀ w, (Instr.typeAssert u 20 112 true).run Tryz.prog w = .ok (.tuple #[x, .bool b]) w) :
    Calls Tryz.prog 122 #[.agg #[], u] w fun e w' => e = .returned (.bool b) ∧ Below w.heap.size w w' := by
  go_enter Tryz.func122, Tryz.ntmps122
  go_wp2
  go_ret
  exact ⟨rfl, below1 w _⟩
theorem type6_asks : Asks 122 (fun k => k == 6) := by
  intro k u w hk
  rcases hk.cases with ⟨h0, rfl⟩ | ⟨rfl, a, rfl⟩ | ⟨rfl, a, rfl⟩ | ⟨rfl, a, rfl⟩ | ⟨rfl, a, rfl⟩ | ⟨rfl, a, rfl⟩ | ⟨rfl, a, rfl⟩ | ⟨rfl, a, rfl⟩ | ⟨rfl, a, rfl⟩ | ⟨rfl, a, b, rfl, ha, hb⟩ | ⟨rfl, c, a, rfl⟩ | ⟨rfl, a, rfl⟩ | ⟨rfl, rfl⟩ | ⟨rfl, rfl⟩
  · simp only [kd_no h0 6 (by decide) (by decide)]; exact type6_walk _ (.bool false) false w (fun w => assert_nil Tryz.underlying112 (by kernel_rfl))
  · exact type6_walk _ _ _ w (fun w => assert_to (z := .bool false) Tryz.underlying112 (fun m h => by cases h) (by kernel_rfl))
  · exact type6_walk _ _ _ w (fun w => assert_to (z := .bool false) Tryz.underlying112 (fun m h => by cases h) (by kernel_rfl))
  · exact type6_walk _ _ _ w (fun w => assert_to (z := .bool false) Tryz.underlying112 (fun m h => by cases h) (by kernel_rfl))
  · exact type6_walk _ _ _ w (fun w => assert_to (z := .bool false) Tryz.underlying112 (fun m h => by cases h) (by kernel_rfl))
  · exact type6_walk _ _ _ w (fun w => assert_to (z := .bool false) Tryz.underlying112 (fun m h => by cases h) (by kernel_rfl))
  · exact type6_walk _ _ _ w (fun w => assert_to (z := .bool false) Tryz.underlying112 (fun m h => by cases h) (by kernel_rfl))
  · exact type6_walk _ _ _ w (fun w => assert_to (z := .bool false) Tryz.underlying112 (fun m h => by cases h) (by kernel_rfl))
  · exact type6_walk _ _ _ w (fun w => assert_to (z := .bool false) Tryz.underlying112 (fun m h => by cases h) (by kernel_rfl))
  · exact type6_walk _ _ _ w (fun w => assert_to (z := .bool false) Tryz.underlying112 (fun m h => by cases h) (by kernel_rfl))
  · exact type6_walk _ _ _ w (fun w => assert_to (z := .bool false) Tryz.underlying112 (fun m h => by cases h) (by kernel_rfl))
  · exact type6_walk _ _ _ w (fun w => assert_to (z := .bool false) Tryz.underlying112 (fun m h => by cases h) (by kernel_rfl))
  · exact type6_walk _ _ _ w (fun w => assert_to (z := .bool false) Tryz.underlying112 (fun m h => by cases h) (by kernel_rfl))
  · exact type6_walk _ _ _ w (fun w => assert_to (z := .bool false) Tryz.underlying112 (fun m h => by cases h) (by kernel_rfl))

set_option maxRecDepth 100000 in
set_option maxHeartbeats 1000000 in
theorem type7_walk (u x : Value) (b : Bool) (w : World) (h : ∀ w, (Instr.typeAssert u 20 115 true).run Tryz.prog w = .ok (.tuple #[x, .bool b]) w) :
    Calls Tryz.prog 124 #[.agg #[], u] w fun e w' => e = .returned (.bool b) ∧ Below w.heap.size w w' := by
  go_enter Tryz.func124, Tryz.ntmps124
  go_wp2
  go_ret
  exact ⟨rfl, below1 w _⟩
theorem type7_asks : Asks 124 (fun k => k == 7) := by
  intro k u w hk
  rcases hk.cases with ⟨h0, rfl⟩ | ⟨rfl, a, rfl⟩ | ⟨rfl, a, rfl⟩ | ⟨rfl, a, rfl⟩ | ⟨rfl, a, rfl⟩ | ⟨rfl, a, rfl⟩ | ⟨rfl, a, rfl⟩ | ⟨rfl, a, rfl⟩ | ⟨rfl, a, rfl⟩ | ⟨rfl, a, b, rfl, ha, hb⟩ | ⟨rfl, c, a, rfl⟩ | ⟨rfl, a, rfl⟩ | ⟨rfl, rfl⟩ | ⟨rfl, rfl⟩
  · simp only [kd_no h0 7 (by decide) (by decide)]; exact type7_walk _ (.slice none 0 0) false w (fun w => assert_nil Tryz.underlying115 (by kernel_rfl))
  · exact type7_walk _ _ _ w (fun w => assert_to (z := .slice none 0 0) Tryz.underlying115 (fun m h => by cases h) (by kernel_rfl))
  · exact type7_walk _ _ _ w (fun w => assert_to (z := .slice none 0 0) Tryz.underlying115 (fun m h => by cases h) (by kernel_rfl))
  · exact type7_walk _ _ _ w (fun w => assert_to (z := .slice none 0 0) Tryz.underlying115 (fun m h => by cases h) (by kernel_rfl))
  · exact type7_walk _ _ _ w (fun w => assert_to (z := .slice none 0 0) Tryz.underlying115 (fun m h => by cases h) (by kernel_rfl))
  · exact type7_walk _ _ _ w (fun w => assert_to (z := .slice none 0 0) Tryz.underlying115 (fun m h => by cases h) (by kernel_rfl))
  · exact type7_walk _ _ _ w (fun w => assert_to (z := .slice none 0 0) Tryz.underlying115 (fun m h => by cases h) (by kernel_rfl))
  · exact type7_walk _ _ _ w (fun w => assert_to (z := .slice none 0 0) Tryz.underlying115 (fun m h => by cases h) (by kernel_rfl))
  · exact type7_walk _ _ _ w (fun w => assert_to (z := .slice none 0 0) Tryz.underlying115 (fun m h => by cases h) (by kernel_rfl))
  · exact type7_walk _ _ _ w (fun w => assert_to (z := .slice none 0 0) Tryz.underlying115 (fun m h => by cases h) (by kernel_rfl))
  · exact type7_walk _ _ _ w (fun w => assert_to (z := .slice none 0 0) Tryz.underlying115 (fun m h => by cases h) (by kernel_rfl))
  · exact type7_walk _ _ _ w (fun w => assert_to (z := .slice none 0 0) Tryz.underlying115 (fun m h => by cases h) (by kernel_rfl))
  · exact type7_walk _ _ _ w (fun w => assert_to (z := .slice none 0 0) Tryz.underlying115 (fun m h => by cases h) (by kernel_rfl))
  · exact type7_walk _ _ _ w (fun w => assert_to (z := .slice none 0 0) Tryz.underlying115 (fun m h => by cases h) (by kernel_rfl))

set_option maxRecDepth 100000 in
set_option maxHeartbeats 1000000 in
theorem type8_walk (u x : Value) (b : Bool) (w : World) (h : ∀ w, (Instr.typeAssert u 20 117 true).run Tryz.prog w = .ok (.tuple #[x, .bool b]) w) :
    Calls Tryz.prog 126 #[.agg #[], u] w fun e w' => e = .returned (.bool b) ∧ Below w.heap.size w w' := by
  go_enter Tryz.func126, Tryz.ntmps126
  go_wp2
  go_ret
  exact ⟨rfl, below1 w _⟩
theorem type8_asks : Asks 126 (fun k => k == 8) := by
  intro k u w hk
  rcases hk.cases with ⟨h0, rfl⟩ | ⟨rfl, a, rfl⟩ | ⟨rfl, a, rfl⟩ | ⟨rfl, a, rfl⟩ | ⟨rfl, a, rfl⟩ | ⟨rfl, a, rfl⟩ | ⟨rfl, a, rfl⟩ | ⟨rfl, a, rfl⟩ | ⟨rfl, a, rfl⟩ | ⟨rfl, a, b, rfl, ha, hb⟩ | ⟨rfl, c, a, rfl⟩ | ⟨rfl, a, rfl⟩ | ⟨rfl, rfl⟩ | ⟨rfl, rfl⟩
  · simp only [kd_no h0 8 (by decide) (by decide)]; exact type8_walk _ (.slice none 0 0) false w (fun w => assert_nil Tryz.underlying117 (by kernel_rfl))
  · exact type8_walk _ _ _ w (fun w => assert_to (z := .slice none 0 0) Tryz.underlying117 (fun m h => by cases h) (by kernel_rfl))
  · exact type8_walk _ _ _ w (fun w => assert_to (z := .slice none 0 0) Tryz.underlying117 (fun m h => by cases h) (by kernel_rfl))
  · exact type8_walk _ _ _ w (fun w => assert_to (z := .slice none 0 0) Tryz.underlying117 (fun m h => by cases h) (by kernel_rfl))
  · exact type8_walk _ _ _ w (fun w => assert_to (z := .slice none 0 0) Tryz.underlying117 (fun m h => by cases h) (by kernel_rfl))
  · exact type8_walk _ _ _ w (fun w => assert_to (z := .slice none 0 0) Tryz.underlying117 (fun m h => by cases h) (by kernel_rfl))
  · exact type8_walk _ _ _ w (fun w => assert_to (z := .slice none 0 0) Tryz.underlying117 (fun m h => by cases h) (by kernel_rfl))
  · exact type8_walk _ _ _ w (fun w => assert_to (z := .slice none 0 0) Tryz.underlying117 (fun m h => by cases h) (by kernel_rfl))
  · exact type8_walk _ _ _ w (fun w => assert_to (z := .slice none 0 0) Tryz.underlying117 (fun m h => by cases h) (by kernel_rfl))
  · exact type8_walk _ _ _ w (fun w => assert_to (z := .slice none 0 0) Tryz.underlying117 (fun m h => by cases h) (by kernel_rfl))
  · exact type8_walk _ _ _ w (fun w => assert_to (z := .slice none 0 0) Tryz.underlying117 (fun m h => by cases h) (by kernel_rfl))
  · exact type8_walk _ _ _ w (fun w => assert_to (z := .slice none 0 0) Tryz.underlying117 (fun m h => by cases h) (by kernel_rfl))
  · exact type8_walk _ _ _ w (fun w => assert_to (z := .slice none 0 0) Tryz.underlying117 (fun m h => by cases h) (by kernel_rfl))
  · exact type8_walk _ _ _ w (fun w => assert_to (z := .slice none 0 0) Tryz.underlying117 (fun m h => by cases h) (by kernel_rfl))

set_option maxRecDepth 100000 in
set_option maxHeartbeats 1000000 in
theorem type9_nn (u : Value) (b : Bool) (w : World) (h : ∀ w, (Instr.typeAssert u 20 120 true).run Tryz.prog w = .ok (.tuple #[.agg #[.nilIface, .nilIface], .bool b]) w) :
    Calls Tryz.prog 128 #[.agg #[], u] w fun e w' => e = .returned (.bool b) ∧ Below w.heap.size w w' := by
  go_enter Tryz.func128, Tryz.ntmps128
  go_wp2
  go_ret
  exact ⟨rfl, by first | exact below2 w _ _ | exact (below2 w _ _).setCell (by simp) _ | exact ((below2 w _ _).setCell (by simp) _).setCell (by simp) _⟩
set_option maxRecDepth 100000 in
set_option maxHeartbeats 1000000 in
theorem type9_nv (u : Value) (T : TypeId) (z : Value) (b : Bool) (w : World) (h : ∀ w, (Instr.typeAssert u 20 120 true).run Tryz.prog w = .ok (.tuple #[.agg #[.nilIface, .iface T z], .bool b]) w) :
    Calls Tryz.prog 128 #[.agg #[], u] w fun e w' => e = .returned (.bool b) ∧ Below w.heap.size w w' := by
  go_enter Tryz.func128, Tryz.ntmps128
  go_wp2
  go_ret
  exact ⟨rfl, by first | exact below2 w _ _ | exact (below2 w _ _).setCell (by simp) _ | exact ((below2 w _ _).setCell (by simp) _).setCell (by simp) _⟩
set_option maxRecDepth 100000 in
set_option maxHeartbeats 1000000 in
theorem type9_vn (u : Value) (T : TypeId) (z : Value) (b : Bool) (w : World) (h : ∀ w, (Instr.typeAssert u 20 120 true).run Tryz.prog w = .ok (.tuple #[.agg #[.iface T z, .nilIface], .bool b]) w) :
    Calls Tryz.prog 128 #[.agg #[], u] w fun e w' => e = .returned (.bool b) ∧ Below w.heap.size w w' := by
  go_enter Tryz.func128, Tryz.ntmps128
  go_wp2
  go_ret
  exact ⟨rfl, by first | exact below2 w _ _ | exact (below2 w _ _).setCell (by simp) _ | exact ((below2 w _ _).setCell (by simp) _).setCell (by simp) _⟩
set_option maxRecDepth 100000 in
set_option maxHeartbeats 1000000 in
theorem type9_vv (u : Value) (T : TypeId) (z : Value) (T' : TypeId) (z' : Value) (b : Bool) (w : World) (h : ∀ w, (Instr.typeAssert u 20 120 true).run Tryz.prog w = .ok (.tuple #[.agg #[.iface T z, .iface T' z'], .bool b]) w) :
    Calls Tryz.prog 128 #[.agg #[], u] w fun e w' => e = .returned (.bool b) ∧ Below w.heap.size w w' := by
  go_enter Tryz.func128, Tryz.ntmps128
  go_wp2
  go_ret
  exact ⟨rfl, by first | exact below2 w _ _ | exact (below2 w _ _).setCell (by simp) _ | exact ((below2 w _ _).setCell (by simp) _).setCell (by simp) _⟩
theorem type9_walk (u x y : Value) (hx : Sx x) (hy : Sx y) (b : Bool) (w : World) (h : ∀ w, (Instr.typeAssert u 20 120 true).run Tryz.prog w = .ok (.tuple #[.agg #[x, y], .bool b]) w) :
    Calls Tryz.prog 128 #[.agg #[], u] w fun e w' => e = .returned (.bool b) ∧ Below w.heap.size w w' := by
  rcases hx with rfl | ⟨T, z, rfl⟩ <;> rcases hy with rfl | ⟨T', z', rfl⟩
  · exact type9_nn u b w h
  · exact type9_nv u _ _ b w h
  · exact type9_vn u _ _ b w h
  · exact type9_vv u _ _ _ _ b w h
theorem type9_asks : Asks 128 (fun k => k == 9) := by
  intro k u w hk
  rcases hk.cases with ⟨h0, rfl⟩ | ⟨rfl, a, rfl⟩ | ⟨rfl, a, rfl⟩ | ⟨rfl, a, rfl⟩ | ⟨rfl, a, rfl⟩ | ⟨rfl, a, rfl⟩ | ⟨rfl, a, rfl⟩ | ⟨rfl, a, rfl⟩ | ⟨rfl, a, rfl⟩ | ⟨rfl, a, b, rfl, ha, hb⟩ | ⟨rfl, c, a, rfl⟩ | ⟨rfl, a, rfl⟩ | ⟨rfl, rfl⟩ | ⟨rfl, rfl⟩
  · simp only [kd_no h0 9 (by decide) (by decide)]; exact type9_walk _ .nilIface .nilIface (.inl rfl) (.inl rfl) false w (fun w => assert_nil Tryz.underlying120 (by kernel_rfl))
  · exact type9_walk _ .nilIface .nilIface (.inl rfl) (.inl rfl) false w (fun w => assert_to (z := .agg #[.nilIface, .nilIface]) Tryz.underlying120 (fun m h => by cases h) (by kernel_rfl))
  · exact type9_walk _ .nilIface .nilIface (.inl rfl) (.inl rfl) false w (fun w => assert_to (z := .agg #[.nilIface, .nilIface]) Tryz.underlying120 (fun m h => by cases h) (by kernel_rfl))
  · exact type9_walk _ .nilIface .nilIface (.inl rfl) (.inl rfl) false w (fun w => assert_to (z := .agg #[.nilIface, .nilIface]) Tryz.underlying120 (fun m h => by cases h) (by kernel_rfl))
  · exact type9_walk _ .nilIface .nilIface (.inl rfl) (.inl rfl) false w (fun w => assert_to (z := .agg #[.nilIface, .nilIface]) Tryz.underlying120 (fun m h => by cases h) (by kernel_rfl))
  · exact type9_walk _ .nilIface .nilIface (.inl rfl) (.inl rfl) false w (fun w => assert_to (z := .agg #[.nilIface, .nilIface]) Tryz.underlying120 (fun m h => by cases h) (by kernel_rfl))
  · exact type9_walk _ .nilIface .nilIface (.inl rfl) (.inl rfl) false w (fun w => assert_to (z := .agg #[.nilIface, .nilIface]) Tryz.underlying120 (fun m h => by cases h) (by kernel_rfl))
  · exact type9_walk _ .nilIface .nilIface (.inl rfl) (.inl rfl) false w (fun w => assert_to (z := .agg #[.nilIface, .nilIface]) Tryz.underlying120 (fun m h => by cases h) (by kernel_rfl))
  · exact type9_walk _ .nilIface .nilIface (.inl rfl) (.inl rfl) false w (fun w => assert_to (z := .agg #[.nilIface, .nilIface]) Tryz.underlying120 (fun m h => by cases h) (by kernel_rfl))
  · exact type9_walk _ a b ha hb true w (fun w => assert_to (z := .agg #[.nilIface, .nilIface]) Tryz.underlying120 (fun m h => by cases h) (by kernel_rfl))
  · exact type9_walk _ .nilIface .nilIface (.inl rfl) (.inl rfl) false w (fun w => assert_to (z := .agg #[.nilIface, .nilIface]) Tryz.underlying120 (fun m h => by cases h) (by kernel_rfl))
  · exact type9_walk _ .nilIface .nilIface (.inl rfl) (.inl rfl) false w (fun w => assert_to (z := .agg #[.nilIface, .nilIface]) Tryz.underlying120 (fun m h => by cases h) (by kernel_rfl))
  · exact type9_walk _ .nilIface .nilIface (.inl rfl) (.inl rfl) false w (fun w => assert_to (z := .agg #[.nilIface, .nilIface]) Tryz.underlying120 (fun m h => by cases h) (by kernel_rfl))
  · exact type9_walk _ .nilIface .nilIface (.inl rfl) (.inl rfl) false w (fun w => assert_to (z := .agg #[.nilIface, .nilIface]) Tryz.underlying120 (fun m h => by cases h) (by kernel_rfl))

set_option maxRecDepth 100000 in
set_option maxHeartbeats 1000000 in
theorem type10_walk (u : Value) (n : Int) (t : ByteArray) (b : Bool) (w : World) (h : ∀ w, (Instr.typeAssert u 20 122 true).run Tryz.prog w = .ok (.tuple #[.agg #[.int .i64 n, .string t], .bool b]) w) :
    Calls Tryz.prog 130 #[.agg #[], u] w fun e w' => e = .returned (.bool b) ∧ Below w.heap.size w w' := by
  go_enter Tryz.func130, Tryz.ntmps130
  go_wp2
  go_ret
  exact ⟨rfl, by first | exact below2 w _ _ | exact (below2 w _ _).setCell (by simp) _ | exact ((below2 w _ _).setCell (by simp) _).setCell (by simp) _⟩
theorem type10_asks : Asks 130 (fun k => k == 10) := by
  intro k u w hk
  rcases hk.cases with ⟨h0, rfl⟩ | ⟨rfl, a, rfl⟩ | ⟨rfl, a, rfl⟩ | ⟨rfl, a, rfl⟩ | ⟨rfl, a, rfl⟩ | ⟨rfl, a, rfl⟩ | ⟨rfl, a, rfl⟩ | ⟨rfl, a, rfl⟩ | ⟨rfl, a, rfl⟩ | ⟨rfl, a, b, rfl, ha, hb⟩ | ⟨rfl, c, a, rfl⟩ | ⟨rfl, a, rfl⟩ | ⟨rfl, rfl⟩ | ⟨rfl, rfl⟩
  · simp only [kd_no h0 10 (by decide) (by decide)]; exact type10_walk _ 0 ⟨#[]⟩ false w (fun w => assert_nil Tryz.underlying122 (by kernel_rfl))
  · exact type10_walk _ 0 ⟨#[]⟩ false w (fun w => assert_to (z := .agg #[.int .i64 0, .string ⟨#[]⟩]) Tryz.underlying122 (fun m h => by cases h) (by kernel_rfl))
  · exact type10_walk _ 0 ⟨#[]⟩ false w (fun w => assert_to (z := .agg #[.int .i64 0, .string ⟨#[]⟩]) Tryz.underlying122 (fun m h => by cases h) (by kernel_rfl))
  · exact type10_walk _ 0 ⟨#[]⟩ false w (fun w => assert_to (z := .agg #[.int .i64 0, .string ⟨#[]⟩]) Tryz.underlying122 (fun m h => by cases h) (by kernel_rfl))
  · exact type10_walk _ 0 ⟨#[]⟩ false w (fun w => assert_to (z := .agg #[.int .i64 0, .string ⟨#[]⟩]) Tryz.underlying122 (fun m h => by cases h) (by kernel_rfl))
  · exact type10_walk _ 0 ⟨#[]⟩ false w (fun w => assert_to (z := .agg #[.int .i64 0, .string ⟨#[]⟩]) Tryz.underlying122 (fun m h => by cases h) (by kernel_rfl))
  · exact type10_walk _ 0 ⟨#[]⟩ false w (fun w => assert_to (z := .agg #[.int .i64 0, .string ⟨#[]⟩]) Tryz.underlying122 (fun m h => by cases h) (by kernel_rfl))
  · exact type10_walk _ 0 ⟨#[]⟩ false w (fun w => assert_to (z := .agg #[.int .i64 0, .string ⟨#[]⟩]) Tryz.underlying122 (fun m h => by cases h) (by kernel_rfl))
  · exact type10_walk _ 0 ⟨#[]⟩ false w (fun w => assert_to (z := .agg #[.int .i64 0, .string ⟨#[]⟩]) Tryz.underlying122 (fun m h => by cases h) (by kernel_rfl))
  · exact type10_walk _ 0 ⟨#[]⟩ false w (fun w => assert_to (z := .agg #[.int .i64 0, .string ⟨#[]⟩]) Tryz.underlying122 (fun m h => by cases h) (by kernel_rfl))
  · exact type10_walk _ c a true w (fun w => assert_to (z := .agg #[.int .i64 0, .string ⟨#[]⟩]) Tryz.underlying122 (fun m h => by cases h) (by kernel_rfl))
  · exact type10_walk _ 0 ⟨#[]⟩ false w (fun w => assert_to (z := .agg #[.int .i64 0, .string ⟨#[]⟩]) Tryz.underlying122 (fun m h => by cases h) (by kernel_rfl))
  · exact type10_walk _ 0 ⟨#[]⟩ false w (fun w => assert_to (z := .agg #[.int .i64 0, .string ⟨#[]⟩]) Tryz.underlying122 (fun m h => by cases h) (by kernel_rfl))
  · exact type10_walk _ 0 ⟨#[]⟩ false w (fun w => assert_to (z := .agg #[.int .i64 0, .string ⟨#[]⟩]) Tryz.underlying122 (fun m h => by cases h) (by kernel_rfl))

set_option maxRecDepth 100000 in
set_option maxHeartbeats 1000000 in
theorem type11_walk (u x : Value) (b : Bool) (w : World) (h : ∀ w, (Instr.typeAssert u 20 123 true).run Tryz.prog w = .ok (.tuple #[x, .bool b]) w) :
    Calls Tryz.prog 132 #[.agg #[], u] w fun e w' => e = .returned (.bool b) ∧ Below w.heap.size w w' := by
  go_enter Tryz.func132, Tryz.ntmps132
  go_wp2
  go_ret
  exact ⟨rfl, below1 w _⟩
theorem type11_asks : Asks 132 (fun k => k == 11 || k == 12) := by
  intro k u w hk
  rcases hk.cases with ⟨h0, rfl⟩ | ⟨rfl, a, rfl⟩ | ⟨rfl, a, rfl⟩ | ⟨rfl, a, rfl⟩ | ⟨rfl, a, rfl⟩ | ⟨rfl, a, rfl⟩ | ⟨rfl, a, rfl⟩ | ⟨rfl, a, rfl⟩ | ⟨rfl, a, rfl⟩ | ⟨rfl, a, b, rfl, ha, hb⟩ | ⟨rfl, c, a, rfl⟩ | ⟨rfl, a, rfl⟩ | ⟨rfl, rfl⟩ | ⟨rfl, rfl⟩
  · simp only [kd_no h0 11 (by decide) (by decide), kd_no h0 12 (by decide) (by decide), Bool.or_false]; exact type11_walk _ (.pointer none) false w (fun w => assert_nil Tryz.underlying123 (by kernel_rfl))
  · exact type11_walk _ _ _ w (fun w => assert_to (z := .pointer none) Tryz.underlying123 (fun m h => by cases h) (by kernel_rfl))
  · exact type11_walk _ _ _ w (fun w => assert_to (z := .pointer none) Tryz.underlying123 (fun m h => by cases h) (by kernel_rfl))
  · exact type11_walk _ _ _ w (fun w => assert_to (z := .pointer none) Tryz.underlying123 (fun m h => by cases h) (by kernel_rfl))
  · exact type11_walk _ _ _ w (fun w => assert_to (z := .pointer none) Tryz.underlying123 (fun m h => by cases h) (by kernel_rfl))
  · exact type11_walk _ _ _ w (fun w => assert_to (z := .pointer none) Tryz.underlying123 (fun m h => by cases h) (by kernel_rfl))
  · exact type11_walk _ _ _ w (fun w => assert_to (z := .pointer none) Tryz.underlying123 (fun m h => by cases h) (by kernel_rfl))
  · exact type11_walk _ _ _ w (fun w => assert_to (z := .pointer none) Tryz.underlying123 (fun m h => by cases h) (by kernel_rfl))
  · exact type11_walk _ _ _ w (fun w => assert_to (z := .pointer none) Tryz.underlying123 (fun m h => by cases h) (by kernel_rfl))
  · exact type11_walk _ _ _ w (fun w => assert_to (z := .pointer none) Tryz.underlying123 (fun m h => by cases h) (by kernel_rfl))
  · exact type11_walk _ _ _ w (fun w => assert_to (z := .pointer none) Tryz.underlying123 (fun m h => by cases h) (by kernel_rfl))
  · exact type11_walk _ _ _ w (fun w => assert_to (z := .pointer none) Tryz.underlying123 (fun m h => by cases h) (by kernel_rfl))
  · exact type11_walk _ _ _ w (fun w => assert_to (z := .pointer none) Tryz.underlying123 (fun m h => by cases h) (by kernel_rfl))
  · exact type11_walk _ _ _ w (fun w => assert_to (z := .pointer none) Tryz.underlying123 (fun m h => by cases h) (by kernel_rfl))

set_option maxRecDepth 100000 in
set_option maxHeartbeats 1000000 in
theorem type13_walk (u : Value) (b : Bool) (w : World) (h : ∀ w, (Instr.typeAssert u 20 125 true).run Tryz.prog w = .ok (.tuple #[.agg #[], .bool b]) w) :
    Calls Tryz.prog 136 #[.agg #[], u] w fun e w' => e = .returned (.bool b) ∧ Below w.heap.size w w' := by
  go_enter Tryz.func136, Tryz.ntmps136
  go_wp2
  go_ret
  exact ⟨rfl, by first | exact below2 w _ _ | exact (below2 w _ _).setCell (by simp) _ | exact ((below2 w _ _).setCell (by simp) _).setCell (by simp) _⟩
theorem type13_asks : Asks 136 (fun k => k == 13) := by
  intro k u w hk
  rcases hk.cases with ⟨h0, rfl⟩ | ⟨rfl, a, rfl⟩ | ⟨rfl, a, rfl⟩ | ⟨rfl, a, rfl⟩ | ⟨rfl, a, rfl⟩ | ⟨rfl, a, rfl⟩ | ⟨rfl, a, rfl⟩ | ⟨rfl, a, rfl⟩ | ⟨rfl, a, rfl⟩ | ⟨rfl, a, b, rfl, ha, hb⟩ | ⟨rfl, c, a, rfl⟩ | ⟨rfl, a, rfl⟩ | ⟨rfl, rfl⟩ | ⟨rfl, rfl⟩
  · simp only [kd_no h0 13 (by decide) (by decide)]; exact type13_walk _ false w (fun w => assert_nil Tryz.underlying125 (by kernel_rfl))
  · exact type13_walk _ false w (fun w => assert_to (z := .agg #[]) Tryz.underlying125 (fun m h => by cases h) (by kernel_rfl))
  · exact type13_walk _ false w (fun w => assert_to (z := .agg #[]) Tryz.underlying125 (fun m h => by cases h) (by kernel_rfl))
  · exact type13_walk _ false w (fun w => assert_to (z := .agg #[]) Tryz.underlying125 (fun m h => by cases h) (by kernel_rfl))
  · exact type13_walk _ false w (fun w => assert_to (z := .agg #[]) Tryz.underlying125 (fun m h => by cases h) (by kernel_rfl))
  · exact type13_walk _ false w (fun w => assert_to (z := .agg #[]) Tryz.underlying125 (fun m h => by cases h) (by kernel_rfl))
  · exact type13_walk _ false w (fun w => assert_to (z := .agg #[]) Tryz.underlying125 (fun m h => by cases h) (by kernel_rfl))
  · exact type13_walk _ false w (fun w => assert_to (z := .agg #[]) Tryz.underlying125 (fun m h => by cases h) (by kernel_rfl))
  · exact type13_walk _ false w (fun w => assert_to (z := .agg #[]) Tryz.underlying125 (fun m h => by cases h) (by kernel_rfl))
  · exact type13_walk _ false w (fun w => assert_to (z := .agg #[]) Tryz.underlying125 (fun m h => by cases h) (by kernel_rfl))
  · exact type13_walk _ false w (fun w => assert_to (z := .agg #[]) Tryz.underlying125 (fun m h => by cases h) (by kernel_rfl))
  · exact type13_walk _ false w (fun w => assert_to (z := .agg #[]) Tryz.underlying125 (fun m h => by cases h) (by kernel_rfl))
  · exact type13_walk _ false w (fun w => assert_to (z := .agg #[]) Tryz.underlying125 (fun m h => by cases h) (by kernel_rfl))
  · exact type13_walk _ true w (fun w => assert_to (z := .agg #[]) Tryz.underlying125 (fun m h => by cases h) (by kernel_rfl))

set_option maxRecDepth 100000 in
set_option maxHeartbeats 1000000 in
theorem typeNo_walk (u : Value) (b : Bool) (w : World) (h : ∀ w, (Instr.typeAssert u 20 182 true).run Tryz.prog w = .ok (.tuple #[.agg #[], .bool b]) w) :
    Calls Tryz.prog 110 #[.agg #[], u] w fun e w' => e = .returned (.bool b) ∧ Below w.heap.size w w' := by
  go_enter Tryz.func110, Tryz.ntmps110
  go_wp2
  go_ret
  exact ⟨rfl, by first | exact below2 w _ _ | exact (below2 w _ _).setCell (by simp) _ | exact ((below2 w _ _).setCell (by simp) _).setCell (by simp) _⟩
theorem typeNo_asks : Asks 110 (fun _ => false) := by
  intro k u w hk
  rcases hk.cases with ⟨h0, rfl⟩ | ⟨rfl, a, rfl⟩ | ⟨rfl, a, rfl⟩ | ⟨rfl, a, rfl⟩ | ⟨rfl, a, rfl⟩ | ⟨rfl, a, rfl⟩ | ⟨rfl, a, rfl⟩ | ⟨rfl, a, rfl⟩ | ⟨rfl, a, rfl⟩ | ⟨rfl, a, b, rfl, ha, hb⟩ | ⟨rfl, c, a, rfl⟩ | ⟨rfl, a, rfl⟩ | ⟨rfl, rfl⟩ | ⟨rfl, rfl⟩
  · exact typeNo_walk _ false w (fun w => assert_nil Tryz.underlying182 (by kernel_rfl))
  · exact typeNo_walk _ false w (fun w => assert_to (z := .agg #[]) Tryz.underlying182 (fun m h => by cases h) (by kernel_rfl))
  · exact typeNo_walk _ false w (fun w => assert_to (z := .agg #[]) Tryz.underlying182 (fun m h => by cases h) (by kernel_rfl))
  · exact typeNo_walk _ false w (fun w => assert_to (z := .agg #[]) Tryz.underlying182 (fun m h => by cases h) (by kernel_rfl))
  · exact typeNo_walk _ false w (fun w => assert_to (z := .agg #[]) Tryz.underlying182 (fun m h => by cases h) (by kernel_rfl))
  · exact typeNo_walk _ false w (fun w => assert_to (z := .agg #[]) Tryz.underlying182 (fun m h => by cases h) (by kernel_rfl))
  · exact typeNo_walk _ false w (fun w => assert_to (z := .agg #[]) Tryz.underlying182 (fun m h => by cases h) (by kernel_rfl))
  · exact typeNo_walk _ false w (fun w => assert_to (z := .agg #[]) Tryz.underlying182 (fun m h => by cases h) (by kernel_rfl))
  · exact typeNo_walk _ false w (fun w => assert_to (z := .agg #[]) Tryz.underlying182 (fun m h => by cases h) (by kernel_rfl))
  · exact typeNo_walk _ false w (fun w => assert_to (z := .agg #[]) Tryz.underlying182 (fun m h => by cases h) (by kernel_rfl))
  · exact typeNo_walk _ false w (fun w => assert_to (z := .agg #[]) Tryz.underlying182 (fun m h => by cases h) (by kernel_rfl))
  · exact typeNo_walk _ false w (fun w => assert_to (z := .agg #[]) Tryz.underlying182 (fun m h => by cases h) (by kernel_rfl))
  · exact typeNo_walk _ false w (fun w => assert_to (z := .agg #[]) Tryz.underlying182 (fun m h => by cases h) (by kernel_rfl))
  · exact typeNo_walk _ false w (fun w => assert_to (z := .agg #[]) Tryz.underlying182 (fun m h => by cases h) (by kernel_rfl))

set_option maxRecDepth 100000 in
set_option maxHeartbeats 1000000 in
theorem type12_walk (u : Value) (b : Bool) (w : World) (h : ∀ w, (binOp .eql 20 u (.iface 123 (.pointer none))).run Tryz.prog w = .ok (.bool b) w) (hg : ∀ w, (eqGuard .eql 20 (.tmp 5) (.tmp 6) u (.iface 123 (.pointer none))).run Tryz.prog w = .ok () w) :
    Calls Tryz.prog 134 #[.agg #[], u] w fun e w' => e = .returned (.bool b) ∧ Below w.heap.size w w' := by
  go_enter Tryz.func134, Tryz.ntmps134
  go_wp2
  go_ret
  exact ⟨rfl, below1 w _⟩
theorem type12_asks : Asks 134 (fun k => k == 12) := by
  intro k u w hk
  rcases hk.cases with ⟨h0, rfl⟩ | ⟨rfl, a, rfl⟩ | ⟨rfl, a, rfl⟩ | ⟨rfl, a, rfl⟩ | ⟨rfl, a, rfl⟩ | ⟨rfl, a, rfl⟩ | ⟨rfl, a, rfl⟩ | ⟨rfl, a, rfl⟩ | ⟨rfl, a, rfl⟩ | ⟨rfl, a, b, rfl, ha, hb⟩ | ⟨rfl, c, a, rfl⟩ | ⟨rfl, a, rfl⟩ | ⟨rfl, rfl⟩ | ⟨rfl, rfl⟩
  · simp only [kd_no h0 12 (by decide) (by decide)]; exact type12_walk _ false w (fun w => by kernel_rfl) (fun w => by kernel_rfl)
  · exact type12_walk _ false w (fun w => run_eql_iface_types _ _ _ _ Tryz.underlying20 (by decide) w) (fun w => by kernel_rfl)
  · exact type12_walk _ false w (fun w => run_eql_iface_types _ _ _ _ Tryz.underlying20 (by decide) w) (fun w => by kernel_rfl)
  · exact type12_walk _ false w (fun w => run_eql_iface_types _ _ _ _ Tryz.underlying20 (by decide) w) (fun w => by kernel_rfl)
  · exact type12_walk _ false w (fun w => run_eql_iface_types _ _ _ _ Tryz.underlying20 (by decide) w) (fun w => by kernel_rfl)
  · exact type12_walk _ false w (fun w => run_eql_iface_types _ _ _ _ Tryz.underlying20 (by decide) w) (fun w => by kernel_rfl)
  · exact type12_walk _ false w (fun w => run_eql_iface_types _ _ _ _ Tryz.underlying20 (by decide) w) (fun w => by kernel_rfl)
  · exact type12_walk _ false w (fun w => run_eql_iface_types _ _ _ _ Tryz.underlying20 (by decide) w) (fun w => by kernel_rfl)
  · exact type12_walk _ false w (fun w => run_eql_iface_types _ _ _ _ Tryz.underlying20 (by decide) w) (fun w => by kernel_rfl)
  · exact type12_walk _ false w (fun w => run_eql_iface_types _ _ _ _ Tryz.underlying20 (by decide) w) (fun w => by kernel_rfl)
  · exact type12_walk _ false w (fun w => run_eql_iface_types _ _ _ _ Tryz.underlying20 (by decide) w) (fun w => by kernel_rfl)
  · exact type12_walk _ false w (fun w => by kernel_rfl) (fun w => by kernel_rfl)
  · exact type12_walk _ true w (fun w => by kernel_rfl) (fun w => by kernel_rfl)
  · exact type12_walk _ false w (fun w => run_eql_iface_types _ _ _ _ Tryz.underlying20 (by decide) w) (fun w => by kernel_rfl)
end Go.Proofs.YtokiaolgdkikiaaGreat
