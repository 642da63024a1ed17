/- What each question of the package answers of a value of kind k: of a type whether the kind has it, of an interface whether the kind has all its methods; no condition. -/
import Derived.Test.YtkgbpildikjoiaaGreatDoorBase
namespace Go.Proofs.YtkgbpildikjoiaaGreatDoor
open Go.RowKit

/-- The question that function f asks answers p of a kind. -/
def Asks (f : Nat) (p : Int → Bool) : Prop := ∀ (k : Int) (u : Value) (w : World), Kd k u → Calls Tryz.prog f #[.agg #[], u] w fun e w' => e = .returned (.bool (p k)) ∧ Below w.heap.size w w'

theorem kd_no {k : Int} (h : k < 1 ∨ 13 < k) (j : Int) (h1 : 1 ≤ j) (h2 : j ≤ 13) : (k == j) = false := by simp; omega
theorem impl_no {k : Int} (h : k < 1 ∨ 13 < k) (f : Int) : impl k f = false := by
  unfold impl
  by_cases h0 : 0 < k
  · have : ¬ k < 14 := by omega
    simp [this]
  · simp [h0]

set_option maxRecDepth 100000 in
set_option maxHeartbeats 1000000 in
theorem face0_walk (u x : Value) (b : Bool) (w : World) (h : ∀ w, (Instr.typeAssert u 20 229 true).run Tryz.prog w = .ok (.tuple #[x, .bool b]) w) :
    Calls Tryz.prog 176 #[.agg #[], u] w fun e w' => e = .returned (.bool b) ∧ Below w.heap.size w w' := by
  go_enter Tryz.func176, Tryz.ntmps176
  go_wp2
  go_ret
  exact ⟨rfl, below1 w _⟩
theorem face0_asks : Asks 176 (fun k => impl k 0) := by
  intro k u w hk
  rcases hk.cases with ⟨h0, rfl⟩ | ⟨rfl, a, rfl⟩ | ⟨rfl, a, rfl⟩ | ⟨rfl, a, rfl⟩ | ⟨rfl, a, rfl⟩ | ⟨rfl, a, rfl⟩ | ⟨rfl, a, rfl⟩ | ⟨rfl, a, rfl⟩ | ⟨rfl, a, rfl⟩ | ⟨rfl, a, b, rfl, ha, hb⟩ | ⟨rfl, c, a, rfl⟩ | ⟨rfl, a, rfl⟩ | ⟨rfl, rfl⟩ | ⟨rfl, rfl⟩
  · simp only [impl_no h0]; exact face0_walk _ .nilIface false w (fun w => assert_nil Tryz.underlying229 (by kernel_rfl))
  · exact face0_walk _ .nilIface false w (fun w => run_typeAssert_lacksB Tryz.underlying229 (by kernel_rfl) (by kernel_rfl) _ _ w)
  · exact face0_walk _ .nilIface false w (fun w => run_typeAssert_lacksB Tryz.underlying229 (by kernel_rfl) (by kernel_rfl) _ _ w)
  · exact face0_walk _ .nilIface false w (fun w => run_typeAssert_lacksB Tryz.underlying229 (by kernel_rfl) (by kernel_rfl) _ _ w)
  · exact face0_walk _ (.iface 113 a) true w (fun w => run_typeAssert_hasB Tryz.underlying229 (by kernel_rfl) _ _ w)
  · exact face0_walk _ (.iface 114 a) true w (fun w => run_typeAssert_hasB Tryz.underlying229 (by kernel_rfl) _ _ w)
  · exact face0_walk _ .nilIface false w (fun w => run_typeAssert_lacksB Tryz.underlying229 (by kernel_rfl) (by kernel_rfl) _ _ w)
  · exact face0_walk _ (.iface 116 a) true w (fun w => run_typeAssert_hasB Tryz.underlying229 (by kernel_rfl) _ _ w)
  · exact face0_walk _ (.iface 118 a) true w (fun w => run_typeAssert_hasB Tryz.underlying229 (by kernel_rfl) _ _ w)
  · exact face0_walk _ (.iface 122 (.agg #[a, b])) true w (fun w => run_typeAssert_hasB Tryz.underlying229 (by kernel_rfl) _ _ w)
  · exact face0_walk _ .nilIface false w (fun w => run_typeAssert_lacksB Tryz.underlying229 (by kernel_rfl) (by kernel_rfl) _ _ w)
  · exact face0_walk _ (.iface 125 (.pointer (some a))) true w (fun w => run_typeAssert_hasB Tryz.underlying229 (by kernel_rfl) _ _ w)
  · exact face0_walk _ (.iface 125 (.pointer none)) true w (fun w => run_typeAssert_hasB Tryz.underlying229 (by kernel_rfl) _ _ w)
  · exact face0_walk _ .nilIface false w (fun w => run_typeAssert_lacksB Tryz.underlying229 (by kernel_rfl) (by kernel_rfl) _ _ w)

set_option maxRecDepth 100000 in
set_option maxHeartbeats 1000000 in
theorem face1_walk (u x : Value) (b : Bool) (w : World) (h : ∀ w, (Instr.typeAssert u 20 232 true).run Tryz.prog w = .ok (.tuple #[x, .bool b]) w) :
    Calls Tryz.prog 178 #[.agg #[], u] w fun e w' => e = .returned (.bool b) ∧ Below w.heap.size w w' := by
  go_enter Tryz.func178, Tryz.ntmps178
  go_wp2
  go_ret
  exact ⟨rfl, below1 w _⟩
theorem face1_asks : Asks 178 (fun k => impl k 1) := by
  intro k u w hk
  rcases hk.cases with ⟨h0, rfl⟩ | ⟨rfl, a, rfl⟩ | ⟨rfl, a, rfl⟩ | ⟨rfl, a, rfl⟩ | ⟨rfl, a, rfl⟩ | ⟨rfl, a, rfl⟩ | ⟨rfl, a, rfl⟩ | ⟨rfl, a, rfl⟩ | ⟨rfl, a, rfl⟩ | ⟨rfl, a, b, rfl, ha, hb⟩ | ⟨rfl, c, a, rfl⟩ | ⟨rfl, a, rfl⟩ | ⟨rfl, rfl⟩ | ⟨rfl, rfl⟩
  · simp only [impl_no h0]; exact face1_walk _ .nilIface false w (fun w => assert_nil Tryz.underlying232 (by kernel_rfl))
  · exact face1_walk _ .nilIface false w (fun w => run_typeAssert_lacksB Tryz.underlying232 (by kernel_rfl) (by kernel_rfl) _ _ w)
  · exact face1_walk _ (.iface 109 a) true w (fun w => run_typeAssert_hasB Tryz.underlying232 (by kernel_rfl) _ _ w)
  · exact face1_walk _ .nilIface false w (fun w => run_typeAssert_lacksB Tryz.underlying232 (by kernel_rfl) (by kernel_rfl) _ _ w)
  · exact face1_walk _ .nilIface false w (fun w => run_typeAssert_lacksB Tryz.underlying232 (by kernel_rfl) (by kernel_rfl) _ _ w)
  · exact face1_walk _ (.iface 114 a) true w (fun w => run_typeAssert_hasB Tryz.underlying232 (by kernel_rfl) _ _ w)
  · exact face1_walk _ .nilIface false w (fun w => run_typeAssert_lacksB Tryz.underlying232 (by kernel_rfl) (by kernel_rfl) _ _ w)
  · exact face1_walk _ .nilIface false w (fun w => run_typeAssert_lacksB Tryz.underlying232 (by kernel_rfl) (by kernel_rfl) _ _ w)
  · exact face1_walk _ .nilIface false w (fun w => run_typeAssert_lacksB Tryz.underlying232 (by kernel_rfl) (by kernel_rfl) _ _ w)
  · exact face1_walk _ .nilIface false w (fun w => run_typeAssert_lacksB Tryz.underlying232 (by kernel_rfl) (by kernel_rfl) _ _ w)
  · exact face1_walk _ (.iface 124 (.agg #[.int .i64 c, .string a])) true w (fun w => run_typeAssert_hasB Tryz.underlying232 (by kernel_rfl) _ _ w)
  · exact face1_walk _ .nilIface false w (fun w => run_typeAssert_lacksB Tryz.underlying232 (by kernel_rfl) (by kernel_rfl) _ _ w)
  · exact face1_walk _ .nilIface false w (fun w => run_typeAssert_lacksB Tryz.underlying232 (by kernel_rfl) (by kernel_rfl) _ _ w)
  · exact face1_walk _ .nilIface false w (fun w => run_typeAssert_lacksB Tryz.underlying232 (by kernel_rfl) (by kernel_rfl) _ _ w)

set_option maxRecDepth 100000 in
set_option maxHeartbeats 1000000 in
theorem face2_walk (u x : Value) (b : Bool) (w : World) (h : ∀ w, (Instr.typeAssert u 20 234 true).run Tryz.prog w = .ok (.tuple #[x, .bool b]) w) :
    Calls Tryz.prog 180 #[.agg #[], u] w fun e w' => e = .returned (.bool b) ∧ Below w.heap.size w w' := by
  go_enter Tryz.func180, Tryz.ntmps180
  go_wp2
  go_ret
  exact ⟨rfl, below1 w _⟩
theorem face2_asks : Asks 180 (fun k => impl k 2) := by
  intro k u w hk
  rcases hk.cases with ⟨h0, rfl⟩ | ⟨rfl, a, rfl⟩ | ⟨rfl, a, rfl⟩ | ⟨rfl, a, rfl⟩ | ⟨rfl, a, rfl⟩ | ⟨rfl, a, rfl⟩ | ⟨rfl, a, rfl⟩ | ⟨rfl, a, rfl⟩ | ⟨rfl, a, rfl⟩ | ⟨rfl, a, b, rfl, ha, hb⟩ | ⟨rfl, c, a, rfl⟩ | ⟨rfl, a, rfl⟩ | ⟨rfl, rfl⟩ | ⟨rfl, rfl⟩
  · simp only [impl_no h0]; exact face2_walk _ .nilIface false w (fun w => assert_nil Tryz.underlying234 (by kernel_rfl))
  · exact face2_walk _ .nilIface false w (fun w => run_typeAssert_lacksB Tryz.underlying234 (by kernel_rfl) (by kernel_rfl) _ _ w)
  · exact face2_walk _ .nilIface false w (fun w => run_typeAssert_lacksB Tryz.underlying234 (by kernel_rfl) (by kernel_rfl) _ _ w)
  · exact face2_walk _ .nilIface false w (fun w => run_typeAssert_lacksB Tryz.underlying234 (by kernel_rfl) (by kernel_rfl) _ _ w)
  · exact face2_walk _ .nilIface false w (fun w => run_typeAssert_lacksB Tryz.underlying234 (by kernel_rfl) (by kernel_rfl) _ _ w)
  · exact face2_walk _ .nilIface false w (fun w => run_typeAssert_lacksB Tryz.underlying234 (by kernel_rfl) (by kernel_rfl) _ _ w)
  · exact face2_walk _ .nilIface false w (fun w => run_typeAssert_lacksB Tryz.underlying234 (by kernel_rfl) (by kernel_rfl) _ _ w)
  · exact face2_walk _ .nilIface false w (fun w => run_typeAssert_lacksB Tryz.underlying234 (by kernel_rfl) (by kernel_rfl) _ _ w)
  · exact face2_walk _ .nilIface false w (fun w => run_typeAssert_lacksB Tryz.underlying234 (by kernel_rfl) (by kernel_rfl) _ _ w)
  · exact face2_walk _ .nilIface false w (fun w => run_typeAssert_lacksB Tryz.underlying234 (by kernel_rfl) (by kernel_rfl) _ _ w)
  · exact face2_walk _ (.iface 124 (.agg #[.int .i64 c, .string a])) true w (fun w => run_typeAssert_hasB Tryz.underlying234 (by kernel_rfl) _ _ w)
  · exact face2_walk _ (.iface 125 (.pointer (some a))) true w (fun w => run_typeAssert_hasB Tryz.underlying234 (by kernel_rfl) _ _ w)
  · exact face2_walk _ (.iface 125 (.pointer none)) true w (fun w => run_typeAssert_hasB Tryz.underlying234 (by kernel_rfl) _ _ w)
  · exact face2_walk _ .nilIface false w (fun w => run_typeAssert_lacksB Tryz.underlying234 (by kernel_rfl) (by kernel_rfl) _ _ w)

set_option maxRecDepth 100000 in
set_option maxHeartbeats 1000000 in
theorem face3_walk (u x : Value) (b : Bool) (w : World) (h : ∀ w, (Instr.typeAssert u 20 237 true).run Tryz.prog w = .ok (.tuple #[x, .bool b]) w) :
    Calls Tryz.prog 182 #[.agg #[], u] w fun e w' => e = .returned (.bool b) ∧ Below w.heap.size w w' := by
  go_enter Tryz.func182, Tryz.ntmps182
  go_wp2
  go_ret
  exact ⟨rfl, below1 w _⟩
theorem face3_asks : Asks 182 (fun k => impl k 3) := by
  intro k u w hk
  rcases hk.cases with ⟨h0, rfl⟩ | ⟨rfl, a, rfl⟩ | ⟨rfl, a, rfl⟩ | ⟨rfl, a, rfl⟩ | ⟨rfl, a, rfl⟩ | ⟨rfl, a, rfl⟩ | ⟨rfl, a, rfl⟩ | ⟨rfl, a, rfl⟩ | ⟨rfl, a, rfl⟩ | ⟨rfl, a, b, rfl, ha, hb⟩ | ⟨rfl, c, a, rfl⟩ | ⟨rfl, a, rfl⟩ | ⟨rfl, rfl⟩ | ⟨rfl, rfl⟩
  · simp only [impl_no h0]; exact face3_walk _ .nilIface false w (fun w => assert_nil Tryz.underlying237 (by kernel_rfl))
  · exact face3_walk _ .nilIface false w (fun w => run_typeAssert_lacksB Tryz.underlying237 (by kernel_rfl) (by kernel_rfl) _ _ w)
  · exact face3_walk _ .nilIface false w (fun w => run_typeAssert_lacksB Tryz.underlying237 (by kernel_rfl) (by kernel_rfl) _ _ w)
  · exact face3_walk _ .nilIface false w (fun w => run_typeAssert_lacksB Tryz.underlying237 (by kernel_rfl) (by kernel_rfl) _ _ w)
  · exact face3_walk _ .nilIface false w (fun w => run_typeAssert_lacksB Tryz.underlying237 (by kernel_rfl) (by kernel_rfl) _ _ w)
  · exact face3_walk _ .nilIface false w (fun w => run_typeAssert_lacksB Tryz.underlying237 (by kernel_rfl) (by kernel_rfl) _ _ w)
  · exact face3_walk _ .nilIface false w (fun w => run_typeAssert_lacksB Tryz.underlying237 (by kernel_rfl) (by kernel_rfl) _ _ w)
  · exact face3_walk _ .nilIface false w (fun w => run_typeAssert_lacksB Tryz.underlying237 (by kernel_rfl) (by kernel_rfl) _ _ w)
  · exact face3_walk _ .nilIface false w (fun w => run_typeAssert_lacksB Tryz.underlying237 (by kernel_rfl) (by kernel_rfl) _ _ w)
  · exact face3_walk _ .nilIface false w (fun w => run_typeAssert_lacksB Tryz.underlying237 (by kernel_rfl) (by kernel_rfl) _ _ w)
  · exact face3_walk _ .nilIface false w (fun w => run_typeAssert_lacksB Tryz.underlying237 (by kernel_rfl) (by kernel_rfl) _ _ w)
  · exact face3_walk _ (.iface 125 (.pointer (some a))) true w (fun w => run_typeAssert_hasB Tryz.underlying237 (by kernel_rfl) _ _ w)
  · exact face3_walk _ (.iface 125 (.pointer none)) true w (fun w => run_typeAssert_hasB Tryz.underlying237 (by kernel_rfl) _ _ w)
  · exact face3_walk _ .nilIface false w (fun w => run_typeAssert_lacksB Tryz.underlying237 (by kernel_rfl) (by kernel_rfl) _ _ w)

set_option maxRecDepth 100000 in
set_option maxHeartbeats 1000000 in
theorem face4_walk (u x : Value) (b : Bool) (w : World) (h : ∀ w, (Instr.typeAssert u 20 240 true).run Tryz.prog w = .ok (.tuple #[x, .bool b]) w) :
    Calls Tryz.prog 184 #[.agg #[], u] w fun e w' => e = .returned (.bool b) ∧ Below w.heap.size w w' := by
  go_enter Tryz.func184, Tryz.ntmps184
  go_wp2
  go_ret
  exact ⟨rfl, below1 w _⟩
theorem face4_asks : Asks 184 (fun k => impl k 4) := by
  intro k u w hk
  rcases hk.cases with ⟨h0, rfl⟩ | ⟨rfl, a, rfl⟩ | ⟨rfl, a, rfl⟩ | ⟨rfl, a, rfl⟩ | ⟨rfl, a, rfl⟩ | ⟨rfl, a, rfl⟩ | ⟨rfl, a, rfl⟩ | ⟨rfl, a, rfl⟩ | ⟨rfl, a, rfl⟩ | ⟨rfl, a, b, rfl, ha, hb⟩ | ⟨rfl, c, a, rfl⟩ | ⟨rfl, a, rfl⟩ | ⟨rfl, rfl⟩ | ⟨rfl, rfl⟩
  · simp only [impl_no h0]; exact face4_walk _ .nilIface false w (fun w => assert_nil Tryz.underlying240 (by kernel_rfl))
  · exact face4_walk _ (.iface 108 a) true w (fun w => run_typeAssert_hasB Tryz.underlying240 (by kernel_rfl) _ _ w)
  · exact face4_walk _ (.iface 109 a) true w (fun w => run_typeAssert_hasB Tryz.underlying240 (by kernel_rfl) _ _ w)
  · exact face4_walk _ (.iface 111 a) true w (fun w => run_typeAssert_hasB Tryz.underlying240 (by kernel_rfl) _ _ w)
  · exact face4_walk _ (.iface 113 a) true w (fun w => run_typeAssert_hasB Tryz.underlying240 (by kernel_rfl) _ _ w)
  · exact face4_walk _ (.iface 114 a) true w (fun w => run_typeAssert_hasB Tryz.underlying240 (by kernel_rfl) _ _ w)
  · exact face4_walk _ .nilIface false w (fun w => run_typeAssert_lacksB Tryz.underlying240 (by kernel_rfl) (by kernel_rfl) _ _ w)
  · exact face4_walk _ .nilIface false w (fun w => run_typeAssert_lacksB Tryz.underlying240 (by kernel_rfl) (by kernel_rfl) _ _ w)
  · exact face4_walk _ .nilIface false w (fun w => run_typeAssert_lacksB Tryz.underlying240 (by kernel_rfl) (by kernel_rfl) _ _ w)
  · exact face4_walk _ .nilIface false w (fun w => run_typeAssert_lacksB Tryz.underlying240 (by kernel_rfl) (by kernel_rfl) _ _ w)
  · exact face4_walk _ .nilIface false w (fun w => run_typeAssert_lacksB Tryz.underlying240 (by kernel_rfl) (by kernel_rfl) _ _ w)
  · exact face4_walk _ .nilIface false w (fun w => run_typeAssert_lacksB Tryz.underlying240 (by kernel_rfl) (by kernel_rfl) _ _ w)
  · exact face4_walk _ .nilIface false w (fun w => run_typeAssert_lacksB Tryz.underlying240 (by kernel_rfl) (by kernel_rfl) _ _ w)
  · exact face4_walk _ .nilIface false w (fun w => run_typeAssert_lacksB Tryz.underlying240 (by kernel_rfl) (by kernel_rfl) _ _ w)

set_option maxRecDepth 100000 in
set_option maxHeartbeats 1000000 in
theorem face5_walk (u x : Value) (b : Bool) (w : World) (h : ∀ w, (Instr.typeAssert u 20 243 true).run Tryz.prog w = .ok (.tuple #[x, .bool b]) w) :
    Calls Tryz.prog 186 #[.agg #[], u] w fun e w' => e = .returned (.bool b) ∧ Below w.heap.size w w' := by
  go_enter Tryz.func186, Tryz.ntmps186
  go_wp2
  go_ret
  exact ⟨rfl, below1 w _⟩
theorem face5_asks : Asks 186 (fun k => impl k 5) := by
  intro k u w hk
  rcases hk.cases with ⟨h0, rfl⟩ | ⟨rfl, a, rfl⟩ | ⟨rfl, a, rfl⟩ | ⟨rfl, a, rfl⟩ | ⟨rfl, a, rfl⟩ | ⟨rfl, a, rfl⟩ | ⟨rfl, a, rfl⟩ | ⟨rfl, a, rfl⟩ | ⟨rfl, a, rfl⟩ | ⟨rfl, a, b, rfl, ha, hb⟩ | ⟨rfl, c, a, rfl⟩ | ⟨rfl, a, rfl⟩ | ⟨rfl, rfl⟩ | ⟨rfl, rfl⟩
  · simp only [impl_no h0]; exact face5_walk _ .nilIface false w (fun w => assert_nil Tryz.underlying243 (by kernel_rfl))
  · exact face5_walk _ (.iface 108 a) true w (fun w => run_typeAssert_hasB Tryz.underlying243 (by kernel_rfl) _ _ w)
  · exact face5_walk _ .nilIface false w (fun w => run_typeAssert_lacksB Tryz.underlying243 (by kernel_rfl) (by kernel_rfl) _ _ w)
  · exact face5_walk _ (.iface 111 a) true w (fun w => run_typeAssert_hasB Tryz.underlying243 (by kernel_rfl) _ _ w)
  · exact face5_walk _ .nilIface false w (fun w => run_typeAssert_lacksB Tryz.underlying243 (by kernel_rfl) (by kernel_rfl) _ _ w)
  · exact face5_walk _ .nilIface false w (fun w => run_typeAssert_lacksB Tryz.underlying243 (by kernel_rfl) (by kernel_rfl) _ _ w)
  · exact face5_walk _ .nilIface false w (fun w => run_typeAssert_lacksB Tryz.underlying243 (by kernel_rfl) (by kernel_rfl) _ _ w)
  · exact face5_walk _ .nilIface false w (fun w => run_typeAssert_lacksB Tryz.underlying243 (by kernel_rfl) (by kernel_rfl) _ _ w)
  · exact face5_walk _ .nilIface false w (fun w => run_typeAssert_lacksB Tryz.underlying243 (by kernel_rfl) (by kernel_rfl) _ _ w)
  · exact face5_walk _ .nilIface false w (fun w => run_typeAssert_lacksB Tryz.underlying243 (by kernel_rfl) (by kernel_rfl) _ _ w)
  · exact face5_walk _ .nilIface false w (fun w => run_typeAssert_lacksB Tryz.underlying243 (by kernel_rfl) (by kernel_rfl) _ _ w)
  · exact face5_walk _ .nilIface false w (fun w => run_typeAssert_lacksB Tryz.underlying243 (by kernel_rfl) (by kernel_rfl) _ _ w)
  · exact face5_walk _ .nilIface false w (fun w => run_typeAssert_lacksB Tryz.underlying243 (by kernel_rfl) (by kernel_rfl) _ _ w)
  · exact face5_walk _ .nilIface false w (fun w => run_typeAssert_lacksB Tryz.underlying243 (by kernel_rfl) (by kernel_rfl) _ _ w)

set_option maxRecDepth 100000 in
set_option maxHeartbeats 1000000 in
theorem face6_walk (u x : Value) (b : Bool) (w : World) (h : ∀ w, (Instr.typeAssert u 20 246 true).run Tryz.prog w = .ok (.tuple #[x, .bool b]) w) :
    Calls Tryz.prog 188 #[.agg #[], u] w fun e w' => e = .returned (.bool b) ∧ Below w.heap.size w w' := by
  go_enter Tryz.func188, Tryz.ntmps188
  go_wp2
  go_ret
  exact ⟨rfl, below1 w _⟩
theorem face6_asks : Asks 188 (fun k => impl k 6) := by
  intro k u w hk
  rcases hk.cases with ⟨h0, rfl⟩ | ⟨rfl, a, rfl⟩ | ⟨rfl, a, rfl⟩ | ⟨rfl, a, rfl⟩ | ⟨rfl, a, rfl⟩ | ⟨rfl, a, rfl⟩ | ⟨rfl, a, rfl⟩ | ⟨rfl, a, rfl⟩ | ⟨rfl, a, rfl⟩ | ⟨rfl, a, b, rfl, ha, hb⟩ | ⟨rfl, c, a, rfl⟩ | ⟨rfl, a, rfl⟩ | ⟨rfl, rfl⟩ | ⟨rfl, rfl⟩
  · simp only [impl_no h0]; exact face6_walk _ .nilIface false w (fun w => assert_nil Tryz.underlying246 (by kernel_rfl))
  · exact face6_walk _ .nilIface false w (fun w => run_typeAssert_lacksB Tryz.underlying246 (by kernel_rfl) (by kernel_rfl) _ _ w)
  · exact face6_walk _ .nilIface false w (fun w => run_typeAssert_lacksB Tryz.underlying246 (by kernel_rfl) (by kernel_rfl) _ _ w)
  · exact face6_walk _ .nilIface false w (fun w => run_typeAssert_lacksB Tryz.underlying246 (by kernel_rfl) (by kernel_rfl) _ _ w)
  · exact face6_walk _ .nilIface false w (fun w => run_typeAssert_lacksB Tryz.underlying246 (by kernel_rfl) (by kernel_rfl) _ _ w)
  · exact face6_walk _ (.iface 114 a) true w (fun w => run_typeAssert_hasB Tryz.underlying246 (by kernel_rfl) _ _ w)
  · exact face6_walk _ .nilIface false w (fun w => run_typeAssert_lacksB Tryz.underlying246 (by kernel_rfl) (by kernel_rfl) _ _ w)
  · exact face6_walk _ .nilIface false w (fun w => run_typeAssert_lacksB Tryz.underlying246 (by kernel_rfl) (by kernel_rfl) _ _ w)
  · exact face6_walk _ .nilIface false w (fun w => run_typeAssert_lacksB Tryz.underlying246 (by kernel_rfl) (by kernel_rfl) _ _ w)
  · exact face6_walk _ .nilIface false w (fun w => run_typeAssert_lacksB Tryz.underlying246 (by kernel_rfl) (by kernel_rfl) _ _ w)
  · exact face6_walk _ .nilIface false w (fun w => run_typeAssert_lacksB Tryz.underlying246 (by kernel_rfl) (by kernel_rfl) _ _ w)
  · exact face6_walk _ .nilIface false w (fun w => run_typeAssert_lacksB Tryz.underlying246 (by kernel_rfl) (by kernel_rfl) _ _ w)
  · exact face6_walk _ .nilIface false w (fun w => run_typeAssert_lacksB Tryz.underlying246 (by kernel_rfl) (by kernel_rfl) _ _ w)
  · exact face6_walk _ .nilIface false w (fun w => run_typeAssert_lacksB Tryz.underlying246 (by kernel_rfl) (by kernel_rfl) _ _ w)

set_option maxRecDepth 100000 in
set_option maxHeartbeats 1000000 in
theorem face7_walk (u x : Value) (b : Bool) (w : World) (h : ∀ w, (Instr.typeAssert u 20 249 true).run Tryz.prog w = .ok (.tuple #[x, .bool b]) w) :
    Calls Tryz.prog 190 #[.agg #[], u] w fun e w' => e = .returned (.bool b) ∧ Below w.heap.size w w' := by
  go_enter Tryz.func190, Tryz.ntmps190
  go_wp2
  go_ret
  exact ⟨rfl, below1 w _⟩
theorem face7_asks : Asks 190 (fun k => impl k 7) := by
  intro k u w hk
  rcases hk.cases with ⟨h0, rfl⟩ | ⟨rfl, a, rfl⟩ | ⟨rfl, a, rfl⟩ | ⟨rfl, a, rfl⟩ | ⟨rfl, a, rfl⟩ | ⟨rfl, a, rfl⟩ | ⟨rfl, a, rfl⟩ | ⟨rfl, a, rfl⟩ | ⟨rfl, a, rfl⟩ | ⟨rfl, a, b, rfl, ha, hb⟩ | ⟨rfl, c, a, rfl⟩ | ⟨rfl, a, rfl⟩ | ⟨rfl, rfl⟩ | ⟨rfl, rfl⟩
  · simp only [impl_no h0]; exact face7_walk _ .nilIface false w (fun w => assert_nil Tryz.underlying249 (by kernel_rfl))
  · exact face7_walk _ .nilIface false w (fun w => run_typeAssert_lacksB Tryz.underlying249 (by kernel_rfl) (by kernel_rfl) _ _ w)
  · exact face7_walk _ .nilIface false w (fun w => run_typeAssert_lacksB Tryz.underlying249 (by kernel_rfl) (by kernel_rfl) _ _ w)
  · exact face7_walk _ .nilIface false w (fun w => run_typeAssert_lacksB Tryz.underlying249 (by kernel_rfl) (by kernel_rfl) _ _ w)
  · exact face7_walk _ (.iface 113 a) true w (fun w => run_typeAssert_hasB Tryz.underlying249 (by kernel_rfl) _ _ w)
  · exact face7_walk _ (.iface 114 a) true w (fun w => run_typeAssert_hasB Tryz.underlying249 (by kernel_rfl) _ _ w)
  · exact face7_walk _ .nilIface false w (fun w => run_typeAssert_lacksB Tryz.underlying249 (by kernel_rfl) (by kernel_rfl) _ _ w)
  · exact face7_walk _ .nilIface false w (fun w => run_typeAssert_lacksB Tryz.underlying249 (by kernel_rfl) (by kernel_rfl) _ _ w)
  · exact face7_walk _ .nilIface false w (fun w => run_typeAssert_lacksB Tryz.underlying249 (by kernel_rfl) (by kernel_rfl) _ _ w)
  · exact face7_walk _ .nilIface false w (fun w => run_typeAssert_lacksB Tryz.underlying249 (by kernel_rfl) (by kernel_rfl) _ _ w)
  · exact face7_walk _ .nilIface false w (fun w => run_typeAssert_lacksB Tryz.underlying249 (by kernel_rfl) (by kernel_rfl) _ _ w)
  · exact face7_walk _ .nilIface false w (fun w => run_typeAssert_lacksB Tryz.underlying249 (by kernel_rfl) (by kernel_rfl) _ _ w)
  · exact face7_walk _ .nilIface false w (fun w => run_typeAssert_lacksB Tryz.underlying249 (by kernel_rfl) (by kernel_rfl) _ _ w)
  · exact face7_walk _ .nilIface false w (fun w => run_typeAssert_lacksB Tryz.underlying249 (by kernel_rfl) (by kernel_rfl) _ _ w)

set_option maxRecDepth 100000 in
set_option maxHeartbeats 1000000 in
theorem face8_walk (u x : Value) (b : Bool) (w : World) (h : ∀ w, (Instr.typeAssert u 20 252 true).run Tryz.prog w = .ok (.tuple #[x, .bool b]) w) :
    Calls Tryz.prog 192 #[.agg #[], u] w fun e w' => e = .returned (.bool b) ∧ Below w.heap.size w w' := by
  go_enter Tryz.func192, Tryz.ntmps192
  go_wp2
  go_ret
  exact ⟨rfl, below1 w _⟩
theorem face8_asks : Asks 192 (fun k => impl k 8) := by
  intro k u w hk
  rcases hk.cases with ⟨h0, rfl⟩ | ⟨rfl, a, rfl⟩ | ⟨rfl, a, rfl⟩ | ⟨rfl, a, rfl⟩ | ⟨rfl, a, rfl⟩ | ⟨rfl, a, rfl⟩ | ⟨rfl, a, rfl⟩ | ⟨rfl, a, rfl⟩ | ⟨rfl, a, rfl⟩ | ⟨rfl, a, b, rfl, ha, hb⟩ | ⟨rfl, c, a, rfl⟩ | ⟨rfl, a, rfl⟩ | ⟨rfl, rfl⟩ | ⟨rfl, rfl⟩
  · simp only [impl_no h0]; exact face8_walk _ .nilIface false w (fun w => assert_nil Tryz.underlying252 (by kernel_rfl))
  · exact face8_walk _ (.iface 108 a) true w (fun w => run_typeAssert_hasB Tryz.underlying252 (by kernel_rfl) _ _ w)
  · exact face8_walk _ .nilIface false w (fun w => run_typeAssert_lacksB Tryz.underlying252 (by kernel_rfl) (by kernel_rfl) _ _ w)
  · exact face8_walk _ (.iface 111 a) true w (fun w => run_typeAssert_hasB Tryz.underlying252 (by kernel_rfl) _ _ w)
  · exact face8_walk _ .nilIface false w (fun w => run_typeAssert_lacksB Tryz.underlying252 (by kernel_rfl) (by kernel_rfl) _ _ w)
  · exact face8_walk _ .nilIface false w (fun w => run_typeAssert_lacksB Tryz.underlying252 (by kernel_rfl) (by kernel_rfl) _ _ w)
  · exact face8_walk _ .nilIface false w (fun w => run_typeAssert_lacksB Tryz.underlying252 (by kernel_rfl) (by kernel_rfl) _ _ w)
  · exact face8_walk _ .nilIface false w (fun w => run_typeAssert_lacksB Tryz.underlying252 (by kernel_rfl) (by kernel_rfl) _ _ w)
  · exact face8_walk _ .nilIface false w (fun w => run_typeAssert_lacksB Tryz.underlying252 (by kernel_rfl) (by kernel_rfl) _ _ w)
  · exact face8_walk _ .nilIface false w (fun w => run_typeAssert_lacksB Tryz.underlying252 (by kernel_rfl) (by kernel_rfl) _ _ w)
  · exact face8_walk _ .nilIface false w (fun w => run_typeAssert_lacksB Tryz.underlying252 (by kernel_rfl) (by kernel_rfl) _ _ w)
  · exact face8_walk _ .nilIface false w (fun w => run_typeAssert_lacksB Tryz.underlying252 (by kernel_rfl) (by kernel_rfl) _ _ w)
  · exact face8_walk _ .nilIface false w (fun w => run_typeAssert_lacksB Tryz.underlying252 (by kernel_rfl) (by kernel_rfl) _ _ w)
  · exact face8_walk _ .nilIface false w (fun w => run_typeAssert_lacksB Tryz.underlying252 (by kernel_rfl) (by kernel_rfl) _ _ w)

set_option maxRecDepth 100000 in
set_option maxHeartbeats 1000000 in
theorem face9_walk (u x : Value) (b : Bool) (w : World) (h : ∀ w, (Instr.typeAssert u 20 255 true).run Tryz.prog w = .ok (.tuple #[x, .bool b]) w) :
    Calls Tryz.prog 194 #[.agg #[], u] w fun e w' => e = .returned (.bool b) ∧ Below w.heap.size w w' := by
  go_enter Tryz.func194, Tryz.ntmps194
  go_wp2
  go_ret
  exact ⟨rfl, below1 w _⟩
theorem face9_asks : Asks 194 (fun k => impl k 9) := by
  intro k u w hk
  rcases hk.cases with ⟨h0, rfl⟩ | ⟨rfl, a, rfl⟩ | ⟨rfl, a, rfl⟩ | ⟨rfl, a, rfl⟩ | ⟨rfl, a, rfl⟩ | ⟨rfl, a, rfl⟩ | ⟨rfl, a, rfl⟩ | ⟨rfl, a, rfl⟩ | ⟨rfl, a, rfl⟩ | ⟨rfl, a, b, rfl, ha, hb⟩ | ⟨rfl, c, a, rfl⟩ | ⟨rfl, a, rfl⟩ | ⟨rfl, rfl⟩ | ⟨rfl, rfl⟩
  · simp only [impl_no h0]; exact face9_walk _ .nilIface false w (fun w => assert_nil Tryz.underlying255 (by kernel_rfl))
  · exact face9_walk _ .nilIface false w (fun w => run_typeAssert_lacksB Tryz.underlying255 (by kernel_rfl) (by kernel_rfl) _ _ w)
  · exact face9_walk _ .nilIface false w (fun w => run_typeAssert_lacksB Tryz.underlying255 (by kernel_rfl) (by kernel_rfl) _ _ w)
  · exact face9_walk _ .nilIface false w (fun w => run_typeAssert_lacksB Tryz.underlying255 (by kernel_rfl) (by kernel_rfl) _ _ w)
  · exact face9_walk _ .nilIface false w (fun w => run_typeAssert_lacksB Tryz.underlying255 (by kernel_rfl) (by kernel_rfl) _ _ w)
  · exact face9_walk _ (.iface 114 a) true w (fun w => run_typeAssert_hasB Tryz.underlying255 (by kernel_rfl) _ _ w)
  · exact face9_walk _ .nilIface false w (fun w => run_typeAssert_lacksB Tryz.underlying255 (by kernel_rfl) (by kernel_rfl) _ _ w)
  · exact face9_walk _ .nilIface false w (fun w => run_typeAssert_lacksB Tryz.underlying255 (by kernel_rfl) (by kernel_rfl) _ _ w)
  · exact face9_walk _ .nilIface false w (fun w => run_typeAssert_lacksB Tryz.underlying255 (by kernel_rfl) (by kernel_rfl) _ _ w)
  · exact face9_walk _ .nilIface false w (fun w => run_typeAssert_lacksB Tryz.underlying255 (by kernel_rfl) (by kernel_rfl) _ _ w)
  · exact face9_walk _ .nilIface false w (fun w => run_typeAssert_lacksB Tryz.underlying255 (by kernel_rfl) (by kernel_rfl) _ _ w)
  · exact face9_walk _ .nilIface false w (fun w => run_typeAssert_lacksB Tryz.underlying255 (by kernel_rfl) (by kernel_rfl) _ _ w)
  · exact face9_walk _ .nilIface false w (fun w => run_typeAssert_lacksB Tryz.underlying255 (by kernel_rfl) (by kernel_rfl) _ _ w)
  · exact face9_walk _ .nilIface false w (fun w => run_typeAssert_lacksB Tryz.underlying255 (by kernel_rfl) (by kernel_rfl) _ _ w)

set_option maxRecDepth 100000 in
set_option maxHeartbeats 1000000 in
theorem type1_walk (u x : Value) (b : Bool) (w : World) (h : ∀ w, (Instr.typeAssert u 20 108 true).run Tryz.prog w = .ok (.tuple #[x, .bool b]) w) :
    Calls Tryz.prog 148 #[.agg #[], u] w fun e w' => e = .returned (.bool b) ∧ Below w.heap.size w w' := by
  go_enter Tryz.func148, Tryz.ntmps148
  go_wp2
  go_ret
  exact ⟨rfl, below1 w _⟩
theorem type1_asks : Asks 148 (fun k => k == 1) := by
  intro k u w hk
  rcases hk.cases with ⟨h0, rfl⟩ | ⟨rfl, a, rfl⟩ | ⟨rfl, a, rfl⟩ | ⟨rfl, a, rfl⟩ | ⟨rfl, a, rfl⟩ | ⟨rfl, a, rfl⟩ | ⟨rfl, a, rfl⟩ | ⟨rfl, a, rfl⟩ | ⟨rfl, a, rfl⟩ | ⟨rfl, a, b, rfl, ha, hb⟩ | ⟨rfl, c, a, rfl⟩ | ⟨rfl, a, rfl⟩ | ⟨rfl, rfl⟩ | ⟨rfl, rfl⟩
  · simp only [kd_no h0 1 (by decide) (by decide)]; exact type1_walk _ (.int .i64 0) false w (fun w => assert_nil Tryz.underlying108 (by kernel_rfl))
  · exact type1_walk _ _ _ w (fun w => assert_to (z := .int .i64 0) Tryz.underlying108 (fun m h => by cases h) (by kernel_rfl))
  · exact type1_walk _ _ _ w (fun w => assert_to (z := .int .i64 0) Tryz.underlying108 (fun m h => by cases h) (by kernel_rfl))
  · exact type1_walk _ _ _ w (fun w => assert_to (z := .int .i64 0) Tryz.underlying108 (fun m h => by cases h) (by kernel_rfl))
  · exact type1_walk _ _ _ w (fun w => assert_to (z := .int .i64 0) Tryz.underlying108 (fun m h => by cases h) (by kernel_rfl))
  · exact type1_walk _ _ _ w (fun w => assert_to (z := .int .i64 0) Tryz.underlying108 (fun m h => by cases h) (by kernel_rfl))
  · exact type1_walk _ _ _ w (fun w => assert_to (z := .int .i64 0) Tryz.underlying108 (fun m h => by cases h) (by kernel_rfl))
  · exact type1_walk _ _ _ w (fun w => assert_to (z := .int .i64 0) Tryz.underlying108 (fun m h => by cases h) (by kernel_rfl))
  · exact type1_walk _ _ _ w (fun w => assert_to (z := .int .i64 0) Tryz.underlying108 (fun m h => by cases h) (by kernel_rfl))
  · exact type1_walk _ _ _ w (fun w => assert_to (z := .int .i64 0) Tryz.underlying108 (fun m h => by cases h) (by kernel_rfl))
  · exact type1_walk _ _ _ w (fun w => assert_to (z := .int .i64 0) Tryz.underlying108 (fun m h => by cases h) (by kernel_rfl))
  · exact type1_walk _ _ _ w (fun w => assert_to (z := .int .i64 0) Tryz.underlying108 (fun m h => by cases h) (by kernel_rfl))
  · exact type1_walk _ _ _ w (fun w => assert_to (z := .int .i64 0) Tryz.underlying108 (fun m h => by cases h) (by kernel_rfl))
  · exact type1_walk _ _ _ w (fun w => assert_to (z := .int .i64 0) Tryz.underlying108 (fun m h => by cases h) (by kernel_rfl))

set_option maxRecDepth 100000 in
set_option maxHeartbeats 1000000 in
theorem type2_walk (u x : Value) (b : Bool) (w : World) (h : ∀ w, (Instr.typeAssert u 20 109 true).run Tryz.prog w = .ok (.tuple #[x, .bool b]) w) :
    Calls Tryz.prog 150 #[.agg #[], u] w fun e w' => e = .returned (.bool b) ∧ Below w.heap.size w w' := by
  go_enter Tryz.func150, Tryz.ntmps150
  go_wp2
  go_ret
  exact ⟨rfl, below1 w _⟩
theorem type2_asks : Asks 150 (fun k => k == 2) := by
  intro k u w hk
  rcases hk.cases with ⟨h0, rfl⟩ | ⟨rfl, a, rfl⟩ | ⟨rfl, a, rfl⟩ | ⟨rfl, a, rfl⟩ | ⟨rfl, a, rfl⟩ | ⟨rfl, a, rfl⟩ | ⟨rfl, a, rfl⟩ | ⟨rfl, a, rfl⟩ | ⟨rfl, a, rfl⟩ | ⟨rfl, a, b, rfl, ha, hb⟩ | ⟨rfl, c, a, rfl⟩ | ⟨rfl, a, rfl⟩ | ⟨rfl, rfl⟩ | ⟨rfl, rfl⟩
  · simp only [kd_no h0 2 (by decide) (by decide)]; exact type2_walk _ (.int .i64 0) false w (fun w => assert_nil Tryz.underlying109 (by kernel_rfl))
  · exact type2_walk _ _ _ w (fun w => assert_to (z := .int .i64 0) Tryz.underlying109 (fun m h => by cases h) (by kernel_rfl))
  · exact type2_walk _ _ _ w (fun w => assert_to (z := .int .i64 0) Tryz.underlying109 (fun m h => by cases h) (by kernel_rfl))
  · exact type2_walk _ _ _ w (fun w => assert_to (z := .int .i64 0) Tryz.underlying109 (fun m h => by cases h) (by kernel_rfl))
  · exact type2_walk _ _ _ w (fun w => assert_to (z := .int .i64 0) Tryz.underlying109 (fun m h => by cases h) (by kernel_rfl))
  · exact type2_walk _ _ _ w (fun w => assert_to (z := .int .i64 0) Tryz.underlying109 (fun m h => by cases h) (by kernel_rfl))
  · exact type2_walk _ _ _ w (fun w => assert_to (z := .int .i64 0) Tryz.underlying109 (fun m h => by cases h) (by kernel_rfl))
  · exact type2_walk _ _ _ w (fun w => assert_to (z := .int .i64 0) Tryz.underlying109 (fun m h => by cases h) (by kernel_rfl))
  · exact type2_walk _ _ _ w (fun w => assert_to (z := .int .i64 0) Tryz.underlying109 (fun m h => by cases h) (by kernel_rfl))
  · exact type2_walk _ _ _ w (fun w => assert_to (z := .int .i64 0) Tryz.underlying109 (fun m h => by cases h) (by kernel_rfl))
  · exact type2_walk _ _ _ w (fun w => assert_to (z := .int .i64 0) Tryz.underlying109 (fun m h => by cases h) (by kernel_rfl))
  · exact type2_walk _ _ _ w (fun w => assert_to (z := .int .i64 0) Tryz.underlying109 (fun m h => by cases h) (by kernel_rfl))
  · exact type2_walk _ _ _ w (fun w => assert_to (z := .int .i64 0) Tryz.underlying109 (fun m h => by cases h) (by kernel_rfl))
  · exact type2_walk _ _ _ w (fun w => assert_to (z := .int .i64 0) Tryz.underlying109 (fun m h => by cases h) (by kernel_rfl))

set_option maxRecDepth 100000 in
set_option maxHeartbeats 1000000 in
theorem type3_walk (u x : Value) (b : Bool) (w : World) (h : ∀ w, (Instr.typeAssert u 20 111 true).run Tryz.prog w = .ok (.tuple #[x, .bool b]) w) :
    Calls Tryz.prog 152 #[.agg #[], u] w fun e w' => e = .returned (.bool b) ∧ Below w.heap.size w w' := by
  go_enter Tryz.func152, Tryz.ntmps152
  go_wp2
  go_ret
  exact ⟨rfl, below1 w _⟩
theorem type3_asks : Asks 152 (fun k => k == 3) := by
  intro k u w hk
  rcases hk.cases with ⟨h0, rfl⟩ | ⟨rfl, a, rfl⟩ | ⟨rfl, a, rfl⟩ | ⟨rfl, a, rfl⟩ | ⟨rfl, a, rfl⟩ | ⟨rfl, a, rfl⟩ | ⟨rfl, a, rfl⟩ | ⟨rfl, a, rfl⟩ | ⟨rfl, a, rfl⟩ | ⟨rfl, a, b, rfl, ha, hb⟩ | ⟨rfl, c, a, rfl⟩ | ⟨rfl, a, rfl⟩ | ⟨rfl, rfl⟩ | ⟨rfl, rfl⟩
  · simp only [kd_no h0 3 (by decide) (by decide)]; exact type3_walk _ (.float .f64 0) false w (fun w => assert_nil Tryz.underlying111 (by kernel_rfl))
  · exact type3_walk _ _ _ w (fun w => assert_to (z := .float .f64 0) Tryz.underlying111 (fun m h => by cases h) (by kernel_rfl))
  · exact type3_walk _ _ _ w (fun w => assert_to (z := .float .f64 0) Tryz.underlying111 (fun m h => by cases h) (by kernel_rfl))
  · exact type3_walk _ _ _ w (fun w => assert_to (z := .float .f64 0) Tryz.underlying111 (fun m h => by cases h) (by kernel_rfl))
  · exact type3_walk _ _ _ w (fun w => assert_to (z := .float .f64 0) Tryz.underlying111 (fun m h => by cases h) (by kernel_rfl))
  · exact type3_walk _ _ _ w (fun w => assert_to (z := .float .f64 0) Tryz.underlying111 (fun m h => by cases h) (by kernel_rfl))
  · exact type3_walk _ _ _ w (fun w => assert_to (z := .float .f64 0) Tryz.underlying111 (fun m h => by cases h) (by kernel_rfl))
  · exact type3_walk _ _ _ w (fun w => assert_to (z := .float .f64 0) Tryz.underlying111 (fun m h => by cases h) (by kernel_rfl))
  · exact type3_walk _ _ _ w (fun w => assert_to (z := .float .f64 0) Tryz.underlying111 (fun m h => by cases h) (by kernel_rfl))
  · exact type3_walk _ _ _ w (fun w => assert_to (z := .float .f64 0) Tryz.underlying111 (fun m h => by cases h) (by kernel_rfl))
  · exact type3_walk _ _ _ w (fun w => assert_to (z := .float .f64 0) Tryz.underlying111 (fun m h => by cases h) (by kernel_rfl))
  · exact type3_walk _ _ _ w (fun w => assert_to (z := .float .f64 0) Tryz.underlying111 (fun m h => by cases h) (by kernel_rfl))
  · exact type3_walk _ _ _ w (fun w => assert_to (z := .float .f64 0) Tryz.underlying111 (fun m h => by cases h) (by kernel_rfl))
  · exact type3_walk _ _ _ w (fun w => assert_to (z := .float .f64 0) Tryz.underlying111 (fun m h => by cases h) (by kernel_rfl))

set_option maxRecDepth 100000 in
set_option maxHeartbeats 1000000 in
theorem type4_walk (u x : Value) (b : Bool) (w : World) (h : ∀ w, (Instr.typeAssert u 20 113 true).run Tryz.prog w = .ok (.tuple #[x, .bool b]) w) :
    Calls Tryz.prog 154 #[.agg #[], u] w fun e w' => e = .returned (.bool b) ∧ Below w.heap.size w w' := by
  go_enter Tryz.func154, Tryz.ntmps154
  go_wp2
  go_ret
  exact ⟨rfl, below1 w _⟩
theorem type4_asks : Asks 154 (fun k => k == 4) := by
  intro k u w hk
  rcases hk.cases with ⟨h0, rfl⟩ | ⟨rfl, a, rfl⟩ | ⟨rfl, a, rfl⟩ | ⟨rfl, a, rfl⟩ | ⟨rfl, a, rfl⟩ | ⟨rfl, a, rfl⟩ | ⟨rfl, a, rfl⟩ | ⟨rfl, a, rfl⟩ | ⟨rfl, a, rfl⟩ | ⟨rfl, a, b, rfl, ha, hb⟩ | ⟨rfl, c, a, rfl⟩ | ⟨rfl, a, rfl⟩ | ⟨rfl, rfl⟩ | ⟨rfl, rfl⟩
  · simp only [kd_no h0 4 (by decide) (by decide)]; exact type4_walk _ (.string ⟨#[]⟩) false w (fun w => assert_nil Tryz.underlying113 (by kernel_rfl))
  · exact type4_walk _ _ _ w (fun w => assert_to (z := .string ⟨#[]⟩) Tryz.underlying113 (fun m h => by cases h) (by kernel_rfl))
  · exact type4_walk _ _ _ w (fun w => assert_to (z := .string ⟨#[]⟩) Tryz.underlying113 (fun m h => by cases h) (by kernel_rfl))
  · exact type4_walk _ _ _ w (fun w => assert_to (z := .string ⟨#[]⟩) Tryz.underlying113 (fun m h => by cases h) (by kernel_rfl))
  · exact type4_walk _ _ _ w (fun w => assert_to (z := .string ⟨#[]⟩) Tryz.underlying113 (fun m h => by cases h) (by kernel_rfl))
  · exact type4_walk _ _ _ w (fun w => assert_to (z := .string ⟨#[]⟩) Tryz.underlying113 (fun m h => by cases h) (by kernel_rfl))
  · exact type4_walk _ _ _ w (fun w => assert_to (z := .string ⟨#[]⟩) Tryz.underlying113 (fun m h => by cases h) (by kernel_rfl))
  · exact type4_walk _ _ _ w (fun w => assert_to (z := .string ⟨#[]⟩) Tryz.underlying113 (fun m h => by cases h) (by kernel_rfl))
  · exact type4_walk _ _ _ w (fun w => assert_to (z := .string ⟨#[]⟩) Tryz.underlying113 (fun m h => by cases h) (by kernel_rfl))
  · exact type4_walk _ _ _ w (fun w => assert_to (z := .string ⟨#[]⟩) Tryz.underlying113 (fun m h => by cases h) (by kernel_rfl))
  · exact type4_walk _ _ _ w (fun w => assert_to (z := .string ⟨#[]⟩) Tryz.underlying113 (fun m h => by cases h) (by kernel_rfl))
  · exact type4_walk _ _ _ w (fun w => assert_to (z := .string ⟨#[]⟩) Tryz.underlying113 (fun m h => by cases h) (by kernel_rfl))
  · exact type4_walk _ _ _ w (fun w => assert_to (z := .string ⟨#[]⟩) Tryz.underlying113 (fun m h => by cases h) (by kernel_rfl))
  · exact type4_walk _ _ _ w (fun w => assert_to (z := .string ⟨#[]⟩) Tryz.underlying113 (fun m h => by cases h) (by kernel_rfl))

set_option maxRecDepth 100000 in
set_option maxHeartbeats 1000000 in
theorem type5_walk (u x : Value) (b : Bool) (w : World) (h : ∀ w, (Instr.typeAssert u 20 114 true).run Tryz.prog w = .ok (.tuple #[x, .bool b]) w) :
    Calls Tryz.prog 156 #[.agg #[], u] w fun e w' => e = .returned (.bool b) ∧ Below w.heap.size w w' := by
  go_enter Tryz.func156, Tryz.ntmps156
  go_wp2
  go_ret
  exact ⟨rfl, below1 w _⟩
theorem type5_asks : Asks 156 (fun k => k == 5) := by
  intro k u w hk
  rcases hk.cases with ⟨h0, rfl⟩ | ⟨rfl, a, rfl⟩ | ⟨rfl, a, rfl⟩ | ⟨rfl, a, rfl⟩ | ⟨rfl, a, rfl⟩ | ⟨rfl, a, rfl⟩ | ⟨rfl, a, rfl⟩ | ⟨rfl, a, rfl⟩ | ⟨rfl, a, rfl⟩ | ⟨rfl, a, b, rfl, ha, hb⟩ | ⟨rfl, c, a, rfl⟩ | ⟨rfl, a, rfl⟩ | ⟨rfl, rfl⟩ | ⟨rfl, rfl⟩
  · simp only [kd_no h0 5 (by decide) (by decide)]; exact type5_walk _ (.string ⟨#[]⟩) false w (fun w => assert_nil Tryz.underlying114 (by kernel_rfl))
  · exact type5_walk _ _ _ w (fun w => assert_to (z := .string ⟨#[]⟩) Tryz.underlying114 (fun m h => by cases h) (by kernel_rfl))
  · exact type5_walk _ _ _ w (fun w => assert_to (z := .string ⟨#[]⟩) Tryz.underlying114 (fun m h => by cases h) (by kernel_rfl))
  · exact type5_walk _ _ _ w (fun w => assert_to (z := .string ⟨#[]⟩) Tryz.underlying114 (fun m h => by cases h) (by kernel_rfl))
  · exact type5_walk _ _ _ w (fun w => assert_to (z := .string ⟨#[]⟩) Tryz.underlying114 (fun m h => by cases h) (by kernel_rfl))
  · exact type5_walk _ _ _ w (fun w => assert_to (z := .string ⟨#[]⟩) Tryz.underlying114 (fun m h => by cases h) (by kernel_rfl))
  · exact type5_walk _ _ _ w (fun w => assert_to (z := .string ⟨#[]⟩) Tryz.underlying114 (fun m h => by cases h) (by kernel_rfl))
  · exact type5_walk _ _ _ w (fun w => assert_to (z := .string ⟨#[]⟩) Tryz.underlying114 (fun m h => by cases h) (by kernel_rfl))
  · exact type5_walk _ _ _ w (fun w => assert_to (z := .string ⟨#[]⟩) Tryz.underlying114 (fun m h => by cases h) (by kernel_rfl))
  · exact type5_walk _ _ _ w (fun w => assert_to (z := .string ⟨#[]⟩) Tryz.underlying114 (fun m h => by cases h) (by kernel_rfl))
  · exact type5_walk _ _ _ w (fun w => assert_to (z := .string ⟨#[]⟩) Tryz.underlying114 (fun m h => by cases h) (by kernel_rfl))
  · exact type5_walk _ _ _ w (fun w => assert_to (z := .string ⟨#[]⟩) Tryz.underlying114 (fun m h => by cases h) (by kernel_rfl))
  · exact type5_walk _ _ _ w (fun w => assert_to (z := .string ⟨#[]⟩) Tryz.underlying114 (fun m h => by cases h) (by kernel_rfl))
  · exact type5_walk _ _ _ w (fun w => assert_to (z := .string ⟨#[]⟩) Tryz.underlying114 (fun m h => by cases h) (by kernel_rfl))

set_option maxRecDepth 100000 in
set_option maxHeartbeats 1000000 in
theorem type6_walk (u x : Value) (b : Bool) (w : World) (h : ∀ w, (Instr.typeAssert u 20 115 true).run Tryz.prog w = .ok (.tuple #[x, .bool b]) w) :
    Calls Tryz.prog 158 #[.agg #[], u] w fun e w' => e = .returned (.bool b) ∧ Below w.heap.size w w' := by
  go_enter Tryz.func158, Tryz.ntmps158
  go_wp2
  go_ret
  exact ⟨rfl, below1 w _⟩
theorem type6_asks : Asks 158 (fun k => k == 6) := by
  intro k u w hk
  rcases hk.cases with ⟨h0, rfl⟩ | ⟨rfl, a, rfl⟩ | ⟨rfl, a, rfl⟩ | ⟨rfl, a, rfl⟩ | ⟨rfl, a, rfl⟩ | ⟨rfl, a, rfl⟩ | ⟨rfl, a, rfl⟩ | ⟨rfl, a, rfl⟩ | ⟨rfl, a, rfl⟩ | ⟨rfl, a, b, rfl, ha, hb⟩ | ⟨rfl, c, a, rfl⟩ | ⟨rfl, a, rfl⟩ | ⟨rfl, rfl⟩ | ⟨rfl, rfl⟩
  · simp only [kd_no h0 6 (by decide) (by decide)]; exact type6_walk _ (.bool false) false w (fun w => assert_nil Tryz.underlying115 (by kernel_rfl))
  · exact type6_walk _ _ _ w (fun w => assert_to (z := .bool false) Tryz.underlying115 (fun m h => by cases h) (by kernel_rfl))
  · exact type6_walk _ _ _ w (fun w => assert_to (z := .bool false) Tryz.underlying115 (fun m h => by cases h) (by kernel_rfl))
  · exact type6_walk _ _ _ w (fun w => assert_to (z := .bool false) Tryz.underlying115 (fun m h => by cases h) (by kernel_rfl))
  · exact type6_walk _ _ _ w (fun w => assert_to (z := .bool false) Tryz.underlying115 (fun m h => by cases h) (by kernel_rfl))
  · exact type6_walk _ _ _ w (fun w => assert_to (z := .bool false) Tryz.underlying115 (fun m h => by cases h) (by kernel_rfl))
  · exact type6_walk _ _ _ w (fun w => assert_to (z := .bool false) Tryz.underlying115 (fun m h => by cases h) (by kernel_rfl))
  · exact type6_walk _ _ _ w (fun w => assert_to (z := .bool false) Tryz.underlying115 (fun m h => by cases h) (by kernel_rfl))
  · exact type6_walk _ _ _ w (fun w => assert_to (z := .bool false) Tryz.underlying115 (fun m h => by cases h) (by kernel_rfl))
  · exact type6_walk _ _ _ w (fun w => assert_to (z := .bool false) Tryz.underlying115 (fun m h => by cases h) (by kernel_rfl))
  · exact type6_walk _ _ _ w (fun w => assert_to (z := .bool false) Tryz.underlying115 (fun m h => by cases h) (by kernel_rfl))
  · exact type6_walk _ _ _ w (fun w => assert_to (z := .bool false) Tryz.underlying115 (fun m h => by cases h) (by kernel_rfl))
  · exact type6_walk _ _ _ w (fun w => assert_to (z := .bool false) Tryz.underlying115 (fun m h => by cases h) (by kernel_rfl))
  · exact type6_walk _ _ _ w (fun w => assert_to (z := .bool false) Tryz.underlying115 (fun m h => by cases h) (by kernel_rfl))

set_option maxRecDepth 100000 in
set_option maxHeartbeats 1000000 in
theorem type7_walk (u x : Value) (b : Bool) (w : World) (h : ∀ w, (Instr.typeAssert u 20 116 true).run Tryz.prog w = .ok (.tuple #[x, .bool b]) w) :
    Calls Tryz.prog 160 #[.agg #[], u] w fun e w' => e = .returned (.bool b) ∧ Below w.heap.size w w' := by
  go_enter Tryz.func160, Tryz.ntmps160
  go_wp2
  go_ret
  exact ⟨rfl, below1 w _⟩
theorem type7_asks : Asks 160 (fun k => k == 7) := by
  intro k u w hk
  rcases hk.cases with ⟨h0, rfl⟩ | ⟨rfl, a, rfl⟩ | ⟨rfl, a, rfl⟩ | ⟨rfl, a, rfl⟩ | ⟨rfl, a, rfl⟩ | ⟨rfl, a, rfl⟩ | ⟨rfl, a, rfl⟩ | ⟨rfl, a, rfl⟩ | ⟨rfl, a, rfl⟩ | ⟨rfl, a, b, rfl, ha, hb⟩ | ⟨rfl, c, a, rfl⟩ | ⟨rfl, a, rfl⟩ | ⟨rfl, rfl⟩ | ⟨rfl, rfl⟩
  · simp only [kd_no h0 7 (by decide) (by decide)]; exact type7_walk _ (.slice none 0 0) false w (fun w => assert_nil Tryz.underlying116 (by kernel_rfl))
  · exact type7_walk _ _ _ w (fun w => assert_to (z := .slice none 0 0) Tryz.underlying116 (fun m h => by cases h) (by kernel_rfl))
  · exact type7_walk _ _ _ w (fun w => assert_to (z := .slice none 0 0) Tryz.underlying116 (fun m h => by cases h) (by kernel_rfl))
  · exact type7_walk _ _ _ w (fun w => assert_to (z := .slice none 0 0) Tryz.underlying116 (fun m h => by cases h) (by kernel_rfl))
  · exact type7_walk _ _ _ w (fun w => assert_to (z := .slice none 0 0) Tryz.underlying116 (fun m h => by cases h) (by kernel_rfl))
  · exact type7_walk _ _ _ w (fun w => assert_to (z := .slice none 0 0) Tryz.underlying116 (fun m h => by cases h) (by kernel_rfl))
  · exact type7_walk _ _ _ w (fun w => assert_to (z := .slice none 0 0) Tryz.underlying116 (fun m h => by cases h) (by kernel_rfl))
  · exact type7_walk _ _ _ w (fun w => assert_to (z := .slice none 0 0) Tryz.underlying116 (fun m h => by cases h) (by kernel_rfl))
  · exact type7_walk _ _ _ w (fun w => assert_to (z := .slice none 0 0) Tryz.underlying116 (fun m h => by cases h) (by kernel_rfl))
  · exact type7_walk _ _ _ w (fun w => assert_to (z := .slice none 0 0) Tryz.underlying116 (fun m h => by cases h) (by kernel_rfl))
  · exact type7_walk _ _ _ w (fun w => assert_to (z := .slice none 0 0) Tryz.underlying116 (fun m h => by cases h) (by kernel_rfl))
  · exact type7_walk _ _ _ w (fun w => assert_to (z := .slice none 0 0) Tryz.underlying116 (fun m h => by cases h) (by kernel_rfl))
  · exact type7_walk _ _ _ w (fun w => assert_to (z := .slice none 0 0) Tryz.underlying116 (fun m h => by cases h) (by kernel_rfl))
  · exact type7_walk _ _ _ w (fun w => assert_to (z := .slice none 0 0) Tryz.underlying116 (fun m h => by cases h) (by kernel_rfl))

set_option maxRecDepth 100000 in
set_option maxHeartbeats 1000000 in
theorem type8_walk (u x : Value) (b : Bool) (w : World) (h : ∀ w, (Instr.typeAssert u 20 118 true).run Tryz.prog w = .ok (.tuple #[x, .bool b]) w) :
    Calls Tryz.prog 162 #[.agg #[], u] w fun e w' => e = .returned (.bool b) ∧ Below w.heap.size w w' := by
  go_enter Tryz.func162, Tryz.ntmps162
  go_wp2
  go_ret
  exact ⟨rfl, below1 w _⟩
theorem type8_asks : Asks 162 (fun k => k == 8) := by
  intro k u w hk
  rcases hk.cases with ⟨h0, rfl⟩ | ⟨rfl, a, rfl⟩ | ⟨rfl, a, rfl⟩ | ⟨rfl, a, rfl⟩ | ⟨rfl, a, rfl⟩ | ⟨rfl, a, rfl⟩ | ⟨rfl, a, rfl⟩ | ⟨rfl, a, rfl⟩ | ⟨rfl, a, rfl⟩ | ⟨rfl, a, b, rfl, ha, hb⟩ | ⟨rfl, c, a, rfl⟩ | ⟨rfl, a, rfl⟩ | ⟨rfl, rfl⟩ | ⟨rfl, rfl⟩
  · simp only [kd_no h0 8 (by decide) (by decide)]; exact type8_walk _ (.slice none 0 0) false w (fun w => assert_nil Tryz.underlying118 (by kernel_rfl))
  · exact type8_walk _ _ _ w (fun w => assert_to (z := .slice none 0 0) Tryz.underlying118 (fun m h => by cases h) (by kernel_rfl))
  · exact type8_walk _ _ _ w (fun w => assert_to (z := .slice none 0 0) Tryz.underlying118 (fun m h => by cases h) (by kernel_rfl))
  · exact type8_walk _ _ _ w (fun w => assert_to (z := .slice none 0 0) Tryz.underlying118 (fun m h => by cases h) (by kernel_rfl))
  · exact type8_walk _ _ _ w (fun w => assert_to (z := .slice none 0 0) Tryz.underlying118 (fun m h => by cases h) (by kernel_rfl))
  · exact type8_walk _ _ _ w (fun w => assert_to (z := .slice none 0 0) Tryz.underlying118 (fun m h => by cases h) (by kernel_rfl))
  · exact type8_walk _ _ _ w (fun w => assert_to (z := .slice none 0 0) Tryz.underlying118 (fun m h => by cases h) (by kernel_rfl))
  · exact type8_walk _ _ _ w (fun w => assert_to (z := .slice none 0 0) Tryz.underlying118 (fun m h => by cases h) (by kernel_rfl))
  · exact type8_walk _ _ _ w (fun w => assert_to (z := .slice none 0 0) Tryz.underlying118 (fun m h => by cases h) (by kernel_rfl))
  · exact type8_walk _ _ _ w (fun w => assert_to (z := .slice none 0 0) Tryz.underlying118 (fun m h => by cases h) (by kernel_rfl))
  · exact type8_walk _ _ _ w (fun w => assert_to (z := .slice none 0 0) Tryz.underlying118 (fun m h => by cases h) (by kernel_rfl))
  · exact type8_walk _ _ _ w (fun w => assert_to (z := .slice none 0 0) Tryz.underlying118 (fun m h => by cases h) (by kernel_rfl))
  · exact type8_walk _ _ _ w (fun w => assert_to (z := .slice none 0 0) Tryz.underlying118 (fun m h => by cases h) (by kernel_rfl))
  · exact type8_walk _ _ _ w (fun w => assert_to (z := .slice none 0 0) Tryz.underlying118 (fun m h => by cases h) (by kernel_rfl))

set_option maxRecDepth 100000 in
set_option maxHeartbeats 1000000 in
theorem type9_nn (u : Value) (b : Bool) (w : World) (h : ∀ w, (Instr.typeAssert u 20 122 true).run Tryz.prog w = .ok (.tuple #[.agg #[.nilIface, .nilIface], .bool b]) w) :
    Calls Tryz.prog 164 #[.agg #[], u] w fun e w' => e = .returned (.bool b) ∧ Below w.heap.size w w' := by
  go_enter Tryz.func164, Tryz.ntmps164
  go_wp2
  go_ret
  exact ⟨rfl, by first | exact below2 w _ _ | exact (below2 w _ _).setCell (by simp) _ | exact ((below2 w _ _).setCell (by simp) _).setCell (by simp) _⟩
set_option maxRecDepth 100000 in
set_option maxHeartbeats 1000000 in
theorem type9_nv (u : Value) (T : TypeId) (z : Value) (b : Bool) (w : World) (h : ∀ w, (Instr.typeAssert u 20 122 true).run Tryz.prog w = .ok (.tuple #[.agg #[.nilIface, .iface T z], .bool b]) w) :
    Calls Tryz.prog 164 #[.agg #[], u] w fun e w' => e = .returned (.bool b) ∧ Below w.heap.size w w' := by
  go_enter Tryz.func164, Tryz.ntmps164
  go_wp2
  go_ret
  exact ⟨rfl, by first | exact below2 w _ _ | exact (below2 w _ _).setCell (by simp) _ | exact ((below2 w _ _).setCell (by simp) _).setCell (by simp) _⟩
set_option maxRecDepth 100000 in
set_option maxHeartbeats 1000000 in
theorem type9_vn (u : Value) (T : TypeId) (z : Value) (b : Bool) (w : World) (h : ∀ w, (Instr.typeAssert u 20 122 true).run Tryz.prog w = .ok (.tuple #[.agg #[.iface T z, .nilIface], .bool b]) w) :
    Calls Tryz.prog 164 #[.agg #[], u] w fun e w' => e = .returned (.bool b) ∧ Below w.heap.size w w' := by
  go_enter Tryz.func164, Tryz.ntmps164
  go_wp2
  go_ret
  exact ⟨rfl, by first | exact below2 w _ _ | exact (below2 w _ _).setCell (by simp) _ | exact ((below2 w _ _).setCell (by simp) _).setCell (by simp) _⟩
set_option maxRecDepth 100000 in
set_option maxHeartbeats 1000000 in
theorem type9_vv (u : Value) (T : TypeId) (z : Value) (T' : TypeId) (z' : Value) (b : Bool) (w : World) (h : ∀ w, (Instr.typeAssert u 20 122 true).run Tryz.prog w = .ok (.tuple #[.agg #[.iface T z, .iface T' z'], .bool b]) w) :
    Calls Tryz.prog 164 #[.agg #[], u] w fun e w' => e = .returned (.bool b) ∧ Below w.heap.size w w' := by
  go_enter Tryz.func164, Tryz.ntmps164
  go_wp2
  go_ret
  exact ⟨rfl, by first | exact below2 w _ _ | exact (below2 w _ _).setCell (by simp) _ | exact ((below2 w _ _).setCell (by simp) _).setCell (by simp) _⟩
theorem type9_walk (u x y : Value) (hx : Sx x) (hy : Sx y) (b : Bool) (w : World) (h : ∀ w, (Instr.typeAssert u 20 122 true).run Tryz.prog w = .ok (.tuple #[.agg #[x, y], .bool b]) w) :
    Calls Tryz.prog 164 #[.agg #[], u] w fun e w' => e = .returned (.bool b) ∧ Below w.heap.size w w' := by
  rcases hx with rfl | ⟨T, z, rfl⟩ <;> rcases hy with rfl | ⟨T', z', rfl⟩
  · exact type9_nn u b w h
  · exact type9_nv u _ _ b w h
  · exact type9_vn u _ _ b w h
  · exact type9_vv u _ _ _ _ b w h
theorem type9_asks : Asks 164 (fun k => k == 9) := by
  intro k u w hk
  rcases hk.cases with ⟨h0, rfl⟩ | ⟨rfl, a, rfl⟩ | ⟨rfl, a, rfl⟩ | ⟨rfl, a, rfl⟩ | ⟨rfl, a, rfl⟩ | ⟨rfl, a, rfl⟩ | ⟨rfl, a, rfl⟩ | ⟨rfl, a, rfl⟩ | ⟨rfl, a, rfl⟩ | ⟨rfl, a, b, rfl, ha, hb⟩ | ⟨rfl, c, a, rfl⟩ | ⟨rfl, a, rfl⟩ | ⟨rfl, rfl⟩ | ⟨rfl, rfl⟩
  · simp only [kd_no h0 9 (by decide) (by decide)]; exact type9_walk _ .nilIface .nilIface (.inl rfl) (.inl rfl) false w (fun w => assert_nil Tryz.underlying122 (by kernel_rfl))
  · exact type9_walk _ .nilIface .nilIface (.inl rfl) (.inl rfl) false w (fun w => assert_to (z := .agg #[.nilIface, .nilIface]) Tryz.underlying122 (fun m h => by cases h) (by kernel_rfl))
  · exact type9_walk _ .nilIface .nilIface (.inl rfl) (.inl rfl) false w (fun w => assert_to (z := .agg #[.nilIface, .nilIface]) Tryz.underlying122 (fun m h => by cases h) (by kernel_rfl))
  · exact type9_walk _ .nilIface .nilIface (.inl rfl) (.inl rfl) false w (fun w => assert_to (z := .agg #[.nilIface, .nilIface]) Tryz.underlying122 (fun m h => by cases h) (by kernel_rfl))
  · exact type9_walk _ .nilIface .nilIface (.inl rfl) (.inl rfl) false w (fun w => assert_to (z := .agg #[.nilIface, .nilIface]) Tryz.underlying122 (fun m h => by cases h) (by kernel_rfl))
  · exact type9_walk _ .nilIface .nilIface (.inl rfl) (.inl rfl) false w (fun w => assert_to (z := .agg #[.nilIface, .nilIface]) Tryz.underlying122 (fun m h => by cases h) (by kernel_rfl))
  · exact type9_walk _ .nilIface .nilIface (.inl rfl) (.inl rfl) false w (fun w => assert_to (z := .agg #[.nilIface, .nilIface]) Tryz.underlying122 (fun m h => by cases h) (by kernel_rfl))
  · exact type9_walk _ .nilIface .nilIface (.inl rfl) (.inl rfl) false w (fun w => assert_to (z := .agg #[.nilIface, .nilIface]) Tryz.underlying122 (fun m h => by cases h) (by kernel_rfl))
  · exact type9_walk _ .nilIface .nilIface (.inl rfl) (.inl rfl) false w (fun w => assert_to (z := .agg #[.nilIface, .nilIface]) Tryz.underlying122 (fun m h => by cases h) (by kernel_rfl))
  · exact type9_walk _ a b ha hb true w (fun w => assert_to (z := .agg #[.nilIface, .nilIface]) Tryz.underlying122 (fun m h => by cases h) (by kernel_rfl))
  · exact type9_walk _ .nilIface .nilIface (.inl rfl) (.inl rfl) false w (fun w => assert_to (z := .agg #[.nilIface, .nilIface]) Tryz.underlying122 (fun m h => by cases h) (by kernel_rfl))
  · exact type9_walk _ .nilIface .nilIface (.inl rfl) (.inl rfl) false w (fun w => assert_to (z := .agg #[.nilIface, .nilIface]) Tryz.underlying122 (fun m h => by cases h) (by kernel_rfl))
  · exact type9_walk _ .nilIface .nilIface (.inl rfl) (.inl rfl) false w (fun w => assert_to (z := .agg #[.nilIface, .nilIface]) Tryz.underlying122 (fun m h => by cases h) (by kernel_rfl))
  · exact type9_walk _ .nilIface .nilIface (.inl rfl) (.inl rfl) false w (fun w => assert_to (z := .agg #[.nilIface, .nilIface]) Tryz.underlying122 (fun m h => by cases h) (by kernel_rfl))

set_option maxRecDepth 100000 in
set_option maxHeartbeats 1000000 in
theorem type10_walk (u : Value) (n : Int) (t : ByteArray) (b : Bool) (w : World) (h : ∀ w, (Instr.typeAssert u 20 124 true).run Tryz.prog w = .ok (.tuple #[.agg #[.int .i64 n, .string t], .bool b]) w) :
    Calls Tryz.prog 166 #[.agg #[], u] w fun e w' => e = .returned (.bool b) ∧ Below w.heap.size w w' := by
  go_enter Tryz.func166, Tryz.ntmps166
  go_wp2
  go_ret
  exact ⟨rfl, by first | exact below2 w _ _ | exact (below2 w _ _).setCell (by simp) _ | exact ((below2 w _ _).setCell (by simp) _).setCell (by simp) _⟩
theorem type10_asks : Asks 166 (fun k => k == 10) := by
  intro k u w hk
  rcases hk.cases with ⟨h0, rfl⟩ | ⟨rfl, a, rfl⟩ | ⟨rfl, a, rfl⟩ | ⟨rfl, a, rfl⟩ | ⟨rfl, a, rfl⟩ | ⟨rfl, a, rfl⟩ | ⟨rfl, a, rfl⟩ | ⟨rfl, a, rfl⟩ | ⟨rfl, a, rfl⟩ | ⟨rfl, a, b, rfl, ha, hb⟩ | ⟨rfl, c, a, rfl⟩ | ⟨rfl, a, rfl⟩ | ⟨rfl, rfl⟩ | ⟨rfl, rfl⟩
  · simp only [kd_no h0 10 (by decide) (by decide)]; exact type10_walk _ 0 ⟨#[]⟩ false w (fun w => assert_nil Tryz.underlying124 (by kernel_rfl))
  · exact type10_walk _ 0 ⟨#[]⟩ false w (fun w => assert_to (z := .agg #[.int .i64 0, .string ⟨#[]⟩]) Tryz.underlying124 (fun m h => by cases h) (by kernel_rfl))
  · exact type10_walk _ 0 ⟨#[]⟩ false w (fun w => assert_to (z := .agg #[.int .i64 0, .string ⟨#[]⟩]) Tryz.underlying124 (fun m h => by cases h) (by kernel_rfl))
  · exact type10_walk _ 0 ⟨#[]⟩ false w (fun w => assert_to (z := .agg #[.int .i64 0, .string ⟨#[]⟩]) Tryz.underlying124 (fun m h => by cases h) (by kernel_rfl))
  · exact type10_walk _ 0 ⟨#[]⟩ false w (fun w => assert_to (z := .agg #[.int .i64 0, .string ⟨#[]⟩]) Tryz.underlying124 (fun m h => by cases h) (by kernel_rfl))
  · exact type10_walk _ 0 ⟨#[]⟩ false w (fun w => assert_to (z := .agg #[.int .i64 0, .string ⟨#[]⟩]) Tryz.underlying124 (fun m h => by cases h) (by kernel_rfl))
  · exact type10_walk _ 0 ⟨#[]⟩ false w (fun w => assert_to (z := .agg #[.int .i64 0, .string ⟨#[]⟩]) Tryz.underlying124 (fun m h => by cases h) (by kernel_rfl))
  · exact type10_walk _ 0 ⟨#[]⟩ false w (fun w => assert_to (z := .agg #[.int .i64 0, .string ⟨#[]⟩]) Tryz.underlying124 (fun m h => by cases h) (by kernel_rfl))
  · exact type10_walk _ 0 ⟨#[]⟩ false w (fun w => assert_to (z := .agg #[.int .i64 0, .string ⟨#[]⟩]) Tryz.underlying124 (fun m h => by cases h) (by kernel_rfl))
  · exact type10_walk _ 0 ⟨#[]⟩ false w (fun w => assert_to (z := .agg #[.int .i64 0, .string ⟨#[]⟩]) Tryz.underlying124 (fun m h => by cases h) (by kernel_rfl))
  · exact type10_walk _ c a true w (fun w => assert_to (z := .agg #[.int .i64 0, .string ⟨#[]⟩]) Tryz.underlying124 (fun m h => by cases h) (by kernel_rfl))
  · exact type10_walk _ 0 ⟨#[]⟩ false w (fun w => assert_to (z := .agg #[.int .i64 0, .string ⟨#[]⟩]) Tryz.underlying124 (fun m h => by cases h) (by kernel_rfl))
  · exact type10_walk _ 0 ⟨#[]⟩ false w (fun w => assert_to (z := .agg #[.int .i64 0, .string ⟨#[]⟩]) Tryz.underlying124 (fun m h => by cases h) (by kernel_rfl))
  · exact type10_walk _ 0 ⟨#[]⟩ false w (fun w => assert_to (z := .agg #[.int .i64 0, .string ⟨#[]⟩]) Tryz.underlying124 (fun m h => by cases h) (by kernel_rfl))

set_option maxRecDepth 100000 in
set_option maxHeartbeats 1000000 in
theorem type11_walk (u x : Value) (b : Bool) (w : World) (h : ∀ w, (Instr.typeAssert u 20 125 true).run Tryz.prog w = .ok (.tuple #[x, .bool b]) w) :
    Calls Tryz.prog 168 #[.agg #[], u] w fun e w' => e = .returned (.bool b) ∧ Below w.heap.size w w' := by
  go_enter Tryz.func168, Tryz.ntmps168
  go_wp2
  go_ret
  exact ⟨rfl, below1 w _⟩
theorem type11_asks : Asks 168 (fun k => k == 11 || k == 12) := by
  intro k u w hk
  rcases hk.cases with ⟨h0, rfl⟩ | ⟨rfl, a, rfl⟩ | ⟨rfl, a, rfl⟩ | ⟨rfl, a, rfl⟩ | ⟨rfl, a, rfl⟩ | ⟨rfl, a, rfl⟩ | ⟨rfl, a, rfl⟩ | ⟨rfl, a, rfl⟩ | ⟨rfl, a, rfl⟩ | ⟨rfl, a, b, rfl, ha, hb⟩ | ⟨rfl, c, a, rfl⟩ | ⟨rfl, a, rfl⟩ | ⟨rfl, rfl⟩ | ⟨rfl, rfl⟩
  · simp only [kd_no h0 11 (by decide) (by decide), kd_no h0 12 (by decide) (by decide), Bool.or_false]; exact type11_walk _ (.pointer none) false w (fun w => assert_nil Tryz.underlying125 (by kernel_rfl))
  · exact type11_walk _ _ _ w (fun w => assert_to (z := .pointer none) Tryz.underlying125 (fun m h => by cases h) (by kernel_rfl))
  · exact type11_walk _ _ _ w (fun w => assert_to (z := .pointer none) Tryz.underlying125 (fun m h => by cases h) (by kernel_rfl))
  · exact type11_walk _ _ _ w (fun w => assert_to (z := .pointer none) Tryz.underlying125 (fun m h => by cases h) (by kernel_rfl))
  · exact type11_walk _ _ _ w (fun w => assert_to (z := .pointer none) Tryz.underlying125 (fun m h => by cases h) (by kernel_rfl))
  · exact type11_walk _ _ _ w (fun w => assert_to (z := .pointer none) Tryz.underlying125 (fun m h => by cases h) (by kernel_rfl))
  · exact type11_walk _ _ _ w (fun w => assert_to (z := .pointer none) Tryz.underlying125 (fun m h => by cases h) (by kernel_rfl))
  · exact type11_walk _ _ _ w (fun w => assert_to (z := .pointer none) Tryz.underlying125 (fun m h => by cases h) (by kernel_rfl))
  · exact type11_walk _ _ _ w (fun w => assert_to (z := .pointer none) Tryz.underlying125 (fun m h => by cases h) (by kernel_rfl))
  · exact type11_walk _ _ _ w (fun w => assert_to (z := .pointer none) Tryz.underlying125 (fun m h => by cases h) (by kernel_rfl))
  · exact type11_walk _ _ _ w (fun w => assert_to (z := .pointer none) Tryz.underlying125 (fun m h => by cases h) (by kernel_rfl))
  · exact type11_walk _ _ _ w (fun w => assert_to (z := .pointer none) Tryz.underlying125 (fun m h => by cases h) (by kernel_rfl))
  · exact type11_walk _ _ _ w (fun w => assert_to (z := .pointer none) Tryz.underlying125 (fun m h => by cases h) (by kernel_rfl))
  · exact type11_walk _ _ _ w (fun w => assert_to (z := .pointer none) Tryz.underlying125 (fun m h => by cases h) (by kernel_rfl))

set_option maxRecDepth 100000 in
set_option maxHeartbeats 1000000 in
theorem type13_walk (u : Value) (b : Bool) (w : World) (h : ∀ w, (Instr.typeAssert u 20 127 true).run Tryz.prog w = .ok (.tuple #[.agg #[], .bool b]) w) :
    Calls Tryz.prog 172 #[.agg #[], u] w fun e w' => e = .returned (.bool b) ∧ Below w.heap.size w w' := by
  go_enter Tryz.func172, Tryz.ntmps172
  go_wp2
  go_ret
  exact ⟨rfl, by first | exact below2 w _ _ | exact (below2 w _ _).setCell (by simp) _ | exact ((below2 w _ _).setCell (by simp) _).setCell (by simp) _⟩
theorem type13_asks : Asks 172 (fun k => k == 13) := by
  intro k u w hk
  rcases hk.cases with ⟨h0, rfl⟩ | ⟨rfl, a, rfl⟩ | ⟨rfl, a, rfl⟩ | ⟨rfl, a, rfl⟩ | ⟨rfl, a, rfl⟩ | ⟨rfl, a, rfl⟩ | ⟨rfl, a, rfl⟩ | ⟨rfl, a, rfl⟩ | ⟨rfl, a, rfl⟩ | ⟨rfl, a, b, rfl, ha, hb⟩ | ⟨rfl, c, a, rfl⟩ | ⟨rfl, a, rfl⟩ | ⟨rfl, rfl⟩ | ⟨rfl, rfl⟩
  · simp only [kd_no h0 13 (by decide) (by decide)]; exact type13_walk _ false w (fun w => assert_nil Tryz.underlying127 (by kernel_rfl))
  · exact type13_walk _ false w (fun w => assert_to (z := .agg #[]) Tryz.underlying127 (fun m h => by cases h) (by kernel_rfl))
  · exact type13_walk _ false w (fun w => assert_to (z := .agg #[]) Tryz.underlying127 (fun m h => by cases h) (by kernel_rfl))
  · exact type13_walk _ false w (fun w => assert_to (z := .agg #[]) Tryz.underlying127 (fun m h => by cases h) (by kernel_rfl))
  · exact type13_walk _ false w (fun w => assert_to (z := .agg #[]) Tryz.underlying127 (fun m h => by cases h) (by kernel_rfl))
  · exact type13_walk _ false w (fun w => assert_to (z := .agg #[]) Tryz.underlying127 (fun m h => by cases h) (by kernel_rfl))
  · exact type13_walk _ false w (fun w => assert_to (z := .agg #[]) Tryz.underlying127 (fun m h => by cases h) (by kernel_rfl))
  · exact type13_walk _ false w (fun w => assert_to (z := .agg #[]) Tryz.underlying127 (fun m h => by cases h) (by kernel_rfl))
  · exact type13_walk _ false w (fun w => assert_to (z := .agg #[]) Tryz.underlying127 (fun m h => by cases h) (by kernel_rfl))
  · exact type13_walk _ false w (fun w => assert_to (z := .agg #[]) Tryz.underlying127 (fun m h => by cases h) (by kernel_rfl))
  · exact type13_walk _ false w (fun w => assert_to (z := .agg #[]) Tryz.underlying127 (fun m h => by cases h) (by kernel_rfl))
  · exact type13_walk _ false w (fun w => assert_to (z := .agg #[]) Tryz.underlying127 (fun m h => by cases h) (by kernel_rfl))
  · exact type13_walk _ false w (fun w => assert_to (z := .agg #[]) Tryz.underlying127 (fun m h => by cases h) (by kernel_rfl))
  · exact type13_walk _ true w (fun w => assert_to (z := .agg #[]) Tryz.underlying127 (fun m h => by cases h) (by kernel_rfl))

set_option maxRecDepth 100000 in
set_option maxHeartbeats 1000000 in
theorem typeNo_walk (u : Value) (b : Bool) (w : World) (h : ∀ w, (Instr.typeAssert u 20 226 true).run Tryz.prog w = .ok (.tuple #[.agg #[], .bool b]) w) :
    Calls Tryz.prog 174 #[.agg #[], u] w fun e w' => e = .returned (.bool b) ∧ Below w.heap.size w w' := by
  go_enter Tryz.func174, Tryz.ntmps174
  go_wp2
  go_ret
  exact ⟨rfl, by first | exact below2 w _ _ | exact (below2 w _ _).setCell (by simp) _ | exact ((below2 w _ _).setCell (by simp) _).setCell (by simp) _⟩
theorem typeNo_asks : Asks 174 (fun _ => false) := by
  intro k u w hk
  rcases hk.cases with ⟨h0, rfl⟩ | ⟨rfl, a, rfl⟩ | ⟨rfl, a, rfl⟩ | ⟨rfl, a, rfl⟩ | ⟨rfl, a, rfl⟩ | ⟨rfl, a, rfl⟩ | ⟨rfl, a, rfl⟩ | ⟨rfl, a, rfl⟩ | ⟨rfl, a, rfl⟩ | ⟨rfl, a, b, rfl, ha, hb⟩ | ⟨rfl, c, a, rfl⟩ | ⟨rfl, a, rfl⟩ | ⟨rfl, rfl⟩ | ⟨rfl, rfl⟩
  · exact typeNo_walk _ false w (fun w => assert_nil Tryz.underlying226 (by kernel_rfl))
  · exact typeNo_walk _ false w (fun w => assert_to (z := .agg #[]) Tryz.underlying226 (fun m h => by cases h) (by kernel_rfl))
  · exact typeNo_walk _ false w (fun w => assert_to (z := .agg #[]) Tryz.underlying226 (fun m h => by cases h) (by kernel_rfl))
  · exact typeNo_walk _ false w (fun w => assert_to (z := .agg #[]) Tryz.underlying226 (fun m h => by cases h) (by kernel_rfl))
  · exact typeNo_walk _ false w (fun w => assert_to (z := .agg #[]) Tryz.underlying226 (fun m h => by cases h) (by kernel_rfl))
  · exact typeNo_walk _ false w (fun w => assert_to (z := .agg #[]) Tryz.underlying226 (fun m h => by cases h) (by kernel_rfl))
  · exact typeNo_walk _ false w (fun w => assert_to (z := .agg #[]) Tryz.underlying226 (fun m h => by cases h) (by kernel_rfl))
  · exact typeNo_walk _ false w (fun w => assert_to (z := .agg #[]) Tryz.underlying226 (fun m h => by cases h) (by kernel_rfl))
  · exact typeNo_walk _ false w (fun w => assert_to (z := .agg #[]) Tryz.underlying226 (fun m h => by cases h) (by kernel_rfl))
  · exact typeNo_walk _ false w (fun w => assert_to (z := .agg #[]) Tryz.underlying226 (fun m h => by cases h) (by kernel_rfl))
  · exact typeNo_walk _ false w (fun w => assert_to (z := .agg #[]) Tryz.underlying226 (fun m h => by cases h) (by kernel_rfl))
  · exact typeNo_walk _ false w (fun w => assert_to (z := .agg #[]) Tryz.underlying226 (fun m h => by cases h) (by kernel_rfl))
  · exact typeNo_walk _ false w (fun w => assert_to (z := .agg #[]) Tryz.underlying226 (fun m h => by cases h) (by kernel_rfl))
  · exact typeNo_walk _ false w (fun w => assert_to (z := .agg #[]) Tryz.underlying226 (fun m h => by cases h) (by kernel_rfl))

set_option maxRecDepth 100000 in
set_option maxHeartbeats 1000000 in
theorem type12_walk (u : Value) (b : Bool) (w : World) (h : ∀ w, (binOp .eql 20 u (.iface 125 (.pointer none))).run Tryz.prog w = .ok (.bool b) w) (hg : ∀ w, (eqGuard .eql 20 (.tmp 5) (.tmp 6) u (.iface 125 (.pointer none))).run Tryz.prog w = .ok () w) :
    Calls Tryz.prog 170 #[.agg #[], u] w fun e w' => e = .returned (.bool b) ∧ Below w.heap.size w w' := by
  go_enter Tryz.func170, Tryz.ntmps170
  go_wp2
  go_ret
  exact ⟨rfl, below1 w _⟩
theorem type12_asks : Asks 170 (fun k => k == 12) := by
  intro k u w hk
  rcases hk.cases with ⟨h0, rfl⟩ | ⟨rfl, a, rfl⟩ | ⟨rfl, a, rfl⟩ | ⟨rfl, a, rfl⟩ | ⟨rfl, a, rfl⟩ | ⟨rfl, a, rfl⟩ | ⟨rfl, a, rfl⟩ | ⟨rfl, a, rfl⟩ | ⟨rfl, a, rfl⟩ | ⟨rfl, a, b, rfl, ha, hb⟩ | ⟨rfl, c, a, rfl⟩ | ⟨rfl, a, rfl⟩ | ⟨rfl, rfl⟩ | ⟨rfl, rfl⟩
  · simp only [kd_no h0 12 (by decide) (by decide)]; exact type12_walk _ false w (fun w => by kernel_rfl) (fun w => by kernel_rfl)
  · exact type12_walk _ false w (fun w => run_eql_iface_types _ _ _ _ Tryz.underlying20 (by decide) w) (fun w => by kernel_rfl)
  · exact type12_walk _ false w (fun w => run_eql_iface_types _ _ _ _ Tryz.underlying20 (by decide) w) (fun w => by kernel_rfl)
  · exact type12_walk _ false w (fun w => run_eql_iface_types _ _ _ _ Tryz.underlying20 (by decide) w) (fun w => by kernel_rfl)
  · exact type12_walk _ false w (fun w => run_eql_iface_types _ _ _ _ Tryz.underlying20 (by decide) w) (fun w => by kernel_rfl)
  · exact type12_walk _ false w (fun w => run_eql_iface_types _ _ _ _ Tryz.underlying20 (by decide) w) (fun w => by kernel_rfl)
  · exact type12_walk _ false w (fun w => run_eql_iface_types _ _ _ _ Tryz.underlying20 (by decide) w) (fun w => by kernel_rfl)
  · exact type12_walk _ false w (fun w => run_eql_iface_types _ _ _ _ Tryz.underlying20 (by decide) w) (fun w => by kernel_rfl)
  · exact type12_walk _ false w (fun w => run_eql_iface_types _ _ _ _ Tryz.underlying20 (by decide) w) (fun w => by kernel_rfl)
  · exact type12_walk _ false w (fun w => run_eql_iface_types _ _ _ _ Tryz.underlying20 (by decide) w) (fun w => by kernel_rfl)
  · exact type12_walk _ false w (fun w => run_eql_iface_types _ _ _ _ Tryz.underlying20 (by decide) w) (fun w => by kernel_rfl)
  · exact type12_walk _ false w (fun w => by kernel_rfl) (fun w => by kernel_rfl)
  · exact type12_walk _ true w (fun w => by kernel_rfl) (fun w => by kernel_rfl)
  · exact type12_walk _ false w (fun w => run_eql_iface_types _ _ _ _ Tryz.underlying20 (by decide) w) (fun w => by kernel_rfl)
end Go.Proofs.YtkgbpildikjoiaaGreatDoor
