/- The package's Plain of values without parts: the plain data; no condition. -/
import Derived.Test.YtajagjcfmaggiaaGreatDoorKCae
import Derived.Test.YtajagjcfmaggiaaGreatDoorKCaj
namespace Go.Proofs.YtajagjcfmaggiaaGreatDoor.Dt
open Go.RowKit
/-- The bits of a tree are within 64. -/
def r64 : (n : Nat) → Tr n → Prop
  | 0, _ => False
  | n + 1, t => (0 ≤ t.ut ∧ t.ut < 18446744073709551616) ∧ ∀ s ∈ t.ks, r64 n s
theorem asto_yes {P : Program} {t x : TypeId} {d : TypeDesc} {v z : Value} {w : World} (hU : P.underlying t = some d) (hd : ∀ m, d ≠ .interface m) (hz : (zeroValue t).run P w = .ok z w) : (Instr.typeAssert (.iface t v) x t true).run P w = .ok (.tuple #[v, .bool true]) w := by
  have := assert_to (t := t) (x := x) (v := v) hU hd hz
  simpa using this
theorem asto_no {P : Program} {t x asserted : TypeId} {d : TypeDesc} {v z : Value} {w : World} (hU : P.underlying asserted = some d) (hd : ∀ m, d ≠ .interface m) (hz : (zeroValue asserted).run P w = .ok z w) (hne : t ≠ asserted) : (Instr.typeAssert (.iface t v) x asserted true).run P w = .ok (.tuple #[z, .bool false]) w := by
  have := assert_to (t := t) (x := x) (v := v) hU hd hz
  simpa [hne] using this
theorem tobits (n : Nat) (w : World) : (callFunc 42 #[.float .f64 n]).run Tryz.prog w = .ok (.value (.int .u64 (n : Int))) w := by kernel_rfl

set_option maxRecDepth 100000 in
theorem plTruth (b : Bool) (w : World) : Calls Tryz.prog 91 #[.bool b] w fun e w' => e = .returned (.agg #[.int .i64 6, .int .i64 (if b then 1 else 0), .int .u64 0, .string ⟨#[]⟩, .slice none 0 0]) ∧ Below w.heap.size w w' := by
  cases b
  all_goals
    go_enter Tryz.func91, Tryz.ntmps91
    go_wp2
    refine bodyPost_ret (v := .agg #[.int .i64 6, .int .i64 _, .int .u64 0, .string ⟨#[]⟩, .slice none 0 0]) (by simp [results, Tryz.results91, go_sem]) rfl ⟨rfl, ?_⟩
    exact below1 w _

set_option maxRecDepth 100000 in
set_option maxHeartbeats 2000000 in
theorem pl0 (w : World) : Calls Tryz.prog 82 #[.nilIface] w fun e w' => e = .returned (.agg #[.int .i64 0, .int .i64 0, .int .u64 0, .string ⟨#[]⟩, .slice none 0 0]) ∧ Below w.heap.size w w' := by
  have a0 : ∀ w : World, (Instr.typeAssert .nilIface 20 140 true).run Tryz.prog w = .ok (.tuple #[.int .i64 0, .bool false]) w := fun w => assert_nil Tryz.underlying140 (by kernel_rfl)
  have a1 : ∀ w : World, (Instr.typeAssert .nilIface 20 141 true).run Tryz.prog w = .ok (.tuple #[.int .i64 0, .bool false]) w := fun w => assert_nil Tryz.underlying141 (by kernel_rfl)
  have a2 : ∀ w : World, (Instr.typeAssert .nilIface 20 142 true).run Tryz.prog w = .ok (.tuple #[.float .f64 0, .bool false]) w := fun w => assert_nil Tryz.underlying142 (by kernel_rfl)
  have a3 : ∀ w : World, (Instr.typeAssert .nilIface 20 101 true).run Tryz.prog w = .ok (.tuple #[.string ⟨#[]⟩, .bool false]) w := fun w => assert_nil Tryz.underlying101 (by kernel_rfl)
  have a4 : ∀ w : World, (Instr.typeAssert .nilIface 20 143 true).run Tryz.prog w = .ok (.tuple #[.string ⟨#[]⟩, .bool false]) w := fun w => assert_nil Tryz.underlying143 (by kernel_rfl)
  have a5 : ∀ w : World, (Instr.typeAssert .nilIface 20 144 true).run Tryz.prog w = .ok (.tuple #[.bool false, .bool false]) w := fun w => assert_nil Tryz.underlying144 (by kernel_rfl)
  have a6 : ∀ w : World, (Instr.typeAssert .nilIface 20 147 true).run Tryz.prog w = .ok (.tuple #[.slice none 0 0, .bool false]) w := fun w => assert_nil Tryz.underlying147 (by kernel_rfl)
  have a7 : ∀ w : World, (Instr.typeAssert .nilIface 20 149 true).run Tryz.prog w = .ok (.tuple #[.slice none 0 0, .bool false]) w := fun w => assert_nil Tryz.underlying149 (by kernel_rfl)
  have a8 : ∀ w : World, (Instr.typeAssert .nilIface 20 152 true).run Tryz.prog w = .ok (.tuple #[.agg #[.nilIface, .nilIface], .bool false]) w := fun w => assert_nil Tryz.underlying152 (by kernel_rfl)
  have a9 : ∀ w : World, (Instr.typeAssert .nilIface 20 154 true).run Tryz.prog w = .ok (.tuple #[.agg #[.int .i64 0, .string ⟨#[]⟩], .bool false]) w := fun w => assert_nil Tryz.underlying154 (by kernel_rfl)
  have a10 : ∀ w : World, (Instr.typeAssert .nilIface 20 155 true).run Tryz.prog w = .ok (.tuple #[.pointer none, .bool false]) w := fun w => assert_nil Tryz.underlying155 (by kernel_rfl)
  have a11 : ∀ w : World, (Instr.typeAssert .nilIface 20 157 true).run Tryz.prog w = .ok (.tuple #[.agg #[], .bool false]) w := fun w => assert_nil Tryz.underlying157 (by kernel_rfl)
  go_enter Tryz.func82, Tryz.ntmps82
  go_wp2
  refine bodyPost_ret (v := .agg #[.int .i64 0, .int .i64 0, .int .u64 0, .string ⟨#[]⟩, .slice none 0 0]) (by simp [results, Tryz.results82, go_sem]) rfl ⟨rfl, ?_⟩
  first | exact below1 w _ | exact below2 w _ _

set_option maxRecDepth 100000 in
set_option maxHeartbeats 2000000 in
theorem pl1 (i : Int) (w : World) : Calls Tryz.prog 82 #[.iface 140 (.int .i64 i)] w fun e w' => e = .returned (.agg #[.int .i64 1, .int .i64 i, .int .u64 0, .string ⟨#[]⟩, .slice none 0 0]) ∧ Below w.heap.size w w' := by
  have a0 : ∀ w : World, (Instr.typeAssert (.iface 140 (.int .i64 i)) 20 140 true).run Tryz.prog w = .ok (.tuple #[.int .i64 i, .bool true]) w := fun w => asto_yes (z := .int .i64 0) Tryz.underlying140 (fun m h => by cases h) (by kernel_rfl)
  go_enter Tryz.func82, Tryz.ntmps82
  go_wp2
  refine bodyPost_ret (v := .agg #[.int .i64 1, .int .i64 i, .int .u64 0, .string ⟨#[]⟩, .slice none 0 0]) (by simp [results, Tryz.results82, go_sem]) rfl ⟨rfl, ?_⟩
  first | exact below1 w _ | exact below2 w _ _

set_option maxRecDepth 100000 in
set_option maxHeartbeats 2000000 in
theorem pl2 (i : Int) (w : World) : Calls Tryz.prog 82 #[.iface 141 (.int .i64 i)] w fun e w' => e = .returned (.agg #[.int .i64 2, .int .i64 i, .int .u64 0, .string ⟨#[]⟩, .slice none 0 0]) ∧ Below w.heap.size w w' := by
  have a0 : ∀ w : World, (Instr.typeAssert (.iface 141 (.int .i64 i)) 20 140 true).run Tryz.prog w = .ok (.tuple #[.int .i64 0, .bool false]) w := fun w => asto_no (z := .int .i64 0) Tryz.underlying140 (fun m h => by cases h) (by kernel_rfl) (by decide)
  have a1 : ∀ w : World, (Instr.typeAssert (.iface 141 (.int .i64 i)) 20 141 true).run Tryz.prog w = .ok (.tuple #[.int .i64 i, .bool true]) w := fun w => asto_yes (z := .int .i64 0) Tryz.underlying141 (fun m h => by cases h) (by kernel_rfl)
  go_enter Tryz.func82, Tryz.ntmps82
  go_wp2
  refine bodyPost_ret (v := .agg #[.int .i64 2, .int .i64 i, .int .u64 0, .string ⟨#[]⟩, .slice none 0 0]) (by simp [results, Tryz.results82, go_sem]) rfl ⟨rfl, ?_⟩
  first | exact below1 w _ | exact below2 w _ _

set_option maxRecDepth 100000 in
set_option maxHeartbeats 2000000 in
theorem pl3 (n : Nat) (w : World) : Calls Tryz.prog 82 #[.iface 142 (.float .f64 n)] w fun e w' => e = .returned (.agg #[.int .i64 3, .int .i64 0, .int .u64 (n : Int), .string ⟨#[]⟩, .slice none 0 0]) ∧ Below w.heap.size w w' := by
  have a0 : ∀ w : World, (Instr.typeAssert (.iface 142 (.float .f64 n)) 20 140 true).run Tryz.prog w = .ok (.tuple #[.int .i64 0, .bool false]) w := fun w => asto_no (z := .int .i64 0) Tryz.underlying140 (fun m h => by cases h) (by kernel_rfl) (by decide)
  have a1 : ∀ w : World, (Instr.typeAssert (.iface 142 (.float .f64 n)) 20 141 true).run Tryz.prog w = .ok (.tuple #[.int .i64 0, .bool false]) w := fun w => asto_no (z := .int .i64 0) Tryz.underlying141 (fun m h => by cases h) (by kernel_rfl) (by decide)
  have a2 : ∀ w : World, (Instr.typeAssert (.iface 142 (.float .f64 n)) 20 142 true).run Tryz.prog w = .ok (.tuple #[.float .f64 n, .bool true]) w := fun w => asto_yes (z := .float .f64 0) Tryz.underlying142 (fun m h => by cases h) (by kernel_rfl)
  have hb := tobits n
  go_enter Tryz.func82, Tryz.ntmps82
  go_wp2
  refine bodyPost_ret (v := .agg #[.int .i64 3, .int .i64 0, .int .u64 (n : Int), .string ⟨#[]⟩, .slice none 0 0]) (by simp [results, Tryz.results82, go_sem]) rfl ⟨rfl, ?_⟩
  first | exact below1 w _ | exact below2 w _ _

set_option maxRecDepth 100000 in
set_option maxHeartbeats 2000000 in
theorem pl4 (s : ByteArray) (w : World) : Calls Tryz.prog 82 #[.iface 101 (.string s)] w fun e w' => e = .returned (.agg #[.int .i64 4, .int .i64 0, .int .u64 0, .string s, .slice none 0 0]) ∧ Below w.heap.size w w' := by
  have a0 : ∀ w : World, (Instr.typeAssert (.iface 101 (.string s)) 20 140 true).run Tryz.prog w = .ok (.tuple #[.int .i64 0, .bool false]) w := fun w => asto_no (z := .int .i64 0) Tryz.underlying140 (fun m h => by cases h) (by kernel_rfl) (by decide)
  have a1 : ∀ w : World, (Instr.typeAssert (.iface 101 (.string s)) 20 141 true).run Tryz.prog w = .ok (.tuple #[.int .i64 0, .bool false]) w := fun w => asto_no (z := .int .i64 0) Tryz.underlying141 (fun m h => by cases h) (by kernel_rfl) (by decide)
  have a2 : ∀ w : World, (Instr.typeAssert (.iface 101 (.string s)) 20 142 true).run Tryz.prog w = .ok (.tuple #[.float .f64 0, .bool false]) w := fun w => asto_no (z := .float .f64 0) Tryz.underlying142 (fun m h => by cases h) (by kernel_rfl) (by decide)
  have a3 : ∀ w : World, (Instr.typeAssert (.iface 101 (.string s)) 20 101 true).run Tryz.prog w = .ok (.tuple #[.string s, .bool true]) w := fun w => asto_yes (z := .string ⟨#[]⟩) Tryz.underlying101 (fun m h => by cases h) (by kernel_rfl)
  go_enter Tryz.func82, Tryz.ntmps82
  go_wp2
  refine bodyPost_ret (v := .agg #[.int .i64 4, .int .i64 0, .int .u64 0, .string s, .slice none 0 0]) (by simp [results, Tryz.results82, go_sem]) rfl ⟨rfl, ?_⟩
  first | exact below1 w _ | exact below2 w _ _

set_option maxRecDepth 100000 in
set_option maxHeartbeats 2000000 in
theorem pl5 (s : ByteArray) (w : World) : Calls Tryz.prog 82 #[.iface 143 (.string s)] w fun e w' => e = .returned (.agg #[.int .i64 5, .int .i64 0, .int .u64 0, .string s, .slice none 0 0]) ∧ Below w.heap.size w w' := by
  have a0 : ∀ w : World, (Instr.typeAssert (.iface 143 (.string s)) 20 140 true).run Tryz.prog w = .ok (.tuple #[.int .i64 0, .bool false]) w := fun w => asto_no (z := .int .i64 0) Tryz.underlying140 (fun m h => by cases h) (by kernel_rfl) (by decide)
  have a1 : ∀ w : World, (Instr.typeAssert (.iface 143 (.string s)) 20 141 true).run Tryz.prog w = .ok (.tuple #[.int .i64 0, .bool false]) w := fun w => asto_no (z := .int .i64 0) Tryz.underlying141 (fun m h => by cases h) (by kernel_rfl) (by decide)
  have a2 : ∀ w : World, (Instr.typeAssert (.iface 143 (.string s)) 20 142 true).run Tryz.prog w = .ok (.tuple #[.float .f64 0, .bool false]) w := fun w => asto_no (z := .float .f64 0) Tryz.underlying142 (fun m h => by cases h) (by kernel_rfl) (by decide)
  have a3 : ∀ w : World, (Instr.typeAssert (.iface 143 (.string s)) 20 101 true).run Tryz.prog w = .ok (.tuple #[.string ⟨#[]⟩, .bool false]) w := fun w => asto_no (z := .string ⟨#[]⟩) Tryz.underlying101 (fun m h => by cases h) (by kernel_rfl) (by decide)
  have a4 : ∀ w : World, (Instr.typeAssert (.iface 143 (.string s)) 20 143 true).run Tryz.prog w = .ok (.tuple #[.string s, .bool true]) w := fun w => asto_yes (z := .string ⟨#[]⟩) Tryz.underlying143 (fun m h => by cases h) (by kernel_rfl)
  go_enter Tryz.func82, Tryz.ntmps82
  go_wp2
  refine bodyPost_ret (v := .agg #[.int .i64 5, .int .i64 0, .int .u64 0, .string s, .slice none 0 0]) (by simp [results, Tryz.results82, go_sem]) rfl ⟨rfl, ?_⟩
  first | exact below1 w _ | exact below2 w _ _

set_option maxRecDepth 100000 in
set_option maxHeartbeats 2000000 in
theorem pl6 (b : Bool) (w : World) : Calls Tryz.prog 82 #[.iface 144 (.bool b)] w fun e w' => e = .returned (.agg #[.int .i64 6, .int .i64 (if b then 1 else 0), .int .u64 0, .string ⟨#[]⟩, .slice none 0 0]) ∧ Below w.heap.size w w' := by
  have a0 : ∀ w : World, (Instr.typeAssert (.iface 144 (.bool b)) 20 140 true).run Tryz.prog w = .ok (.tuple #[.int .i64 0, .bool false]) w := fun w => asto_no (z := .int .i64 0) Tryz.underlying140 (fun m h => by cases h) (by kernel_rfl) (by decide)
  have a1 : ∀ w : World, (Instr.typeAssert (.iface 144 (.bool b)) 20 141 true).run Tryz.prog w = .ok (.tuple #[.int .i64 0, .bool false]) w := fun w => asto_no (z := .int .i64 0) Tryz.underlying141 (fun m h => by cases h) (by kernel_rfl) (by decide)
  have a2 : ∀ w : World, (Instr.typeAssert (.iface 144 (.bool b)) 20 142 true).run Tryz.prog w = .ok (.tuple #[.float .f64 0, .bool false]) w := fun w => asto_no (z := .float .f64 0) Tryz.underlying142 (fun m h => by cases h) (by kernel_rfl) (by decide)
  have a3 : ∀ w : World, (Instr.typeAssert (.iface 144 (.bool b)) 20 101 true).run Tryz.prog w = .ok (.tuple #[.string ⟨#[]⟩, .bool false]) w := fun w => asto_no (z := .string ⟨#[]⟩) Tryz.underlying101 (fun m h => by cases h) (by kernel_rfl) (by decide)
  have a4 : ∀ w : World, (Instr.typeAssert (.iface 144 (.bool b)) 20 143 true).run Tryz.prog w = .ok (.tuple #[.string ⟨#[]⟩, .bool false]) w := fun w => asto_no (z := .string ⟨#[]⟩) Tryz.underlying143 (fun m h => by cases h) (by kernel_rfl) (by decide)
  have a5 : ∀ w : World, (Instr.typeAssert (.iface 144 (.bool b)) 20 144 true).run Tryz.prog w = .ok (.tuple #[.bool b, .bool true]) w := fun w => asto_yes (z := .bool false) Tryz.underlying144 (fun m h => by cases h) (by kernel_rfl)
  have HT := Lib.hid (plTruth b)
  generalize (if b = true then (1 : Int) else 0) = I at HT
  go_enter Tryz.func82, Tryz.ntmps82
  go_wp2_with fail
  refine (HT.out _).mono ?_
  rintro e w1 ⟨rfl, b1⟩
  have d1 := (D5.new w (.int .i64 0) (.int .i64 0) (.int .u64 0) (.string ⟨#[]⟩) (.slice none 0 0)).below b1
  obtain ⟨c0, c1, c2, c3, c4⟩ := d1.c
  have fz : ∀ o, w1.frozen? ⟨w.heap.size, o, none⟩ = false := fun o => d1.f
  have B := (below1 w _).trans (b1.mono (by simp))
  go_wp2
  refine bodyPost_ret (v := .agg #[.int .i64 6, .int .i64 I, .int .u64 0, .string ⟨#[]⟩, .slice none 0 0]) (by simp [results, Tryz.results82, go_sem, World.cell?_setCell_same, World.cell?_setCell_other, c0, c1, c2, c3, c4]) rfl ⟨rfl, ?_⟩
  exact ((((B.setCell (Nat.le_refl _) _).setCell (Nat.le_refl _) _).setCell (Nat.le_refl _) _).setCell (Nat.le_refl _) _).setCell (Nat.le_refl _) _

set_option maxRecDepth 100000 in
set_option maxHeartbeats 2000000 in
theorem pl10 (c : Int) (s : ByteArray) (w : World) : Calls Tryz.prog 82 #[.iface 154 (.agg #[.int .i64 c, .string s])] w fun e w' => e = .returned (.agg #[.int .i64 10, .int .i64 c, .int .u64 0, .string s, .slice none 0 0]) ∧ Below w.heap.size w w' := by
  have a0 : ∀ w : World, (Instr.typeAssert (.iface 154 (.agg #[.int .i64 c, .string s])) 20 140 true).run Tryz.prog w = .ok (.tuple #[.int .i64 0, .bool false]) w := fun w => asto_no (z := .int .i64 0) Tryz.underlying140 (fun m h => by cases h) (by kernel_rfl) (by decide)
  have a1 : ∀ w : World, (Instr.typeAssert (.iface 154 (.agg #[.int .i64 c, .string s])) 20 141 true).run Tryz.prog w = .ok (.tuple #[.int .i64 0, .bool false]) w := fun w => asto_no (z := .int .i64 0) Tryz.underlying141 (fun m h => by cases h) (by kernel_rfl) (by decide)
  have a2 : ∀ w : World, (Instr.typeAssert (.iface 154 (.agg #[.int .i64 c, .string s])) 20 142 true).run Tryz.prog w = .ok (.tuple #[.float .f64 0, .bool false]) w := fun w => asto_no (z := .float .f64 0) Tryz.underlying142 (fun m h => by cases h) (by kernel_rfl) (by decide)
  have a3 : ∀ w : World, (Instr.typeAssert (.iface 154 (.agg #[.int .i64 c, .string s])) 20 101 true).run Tryz.prog w = .ok (.tuple #[.string ⟨#[]⟩, .bool false]) w := fun w => asto_no (z := .string ⟨#[]⟩) Tryz.underlying101 (fun m h => by cases h) (by kernel_rfl) (by decide)
  have a4 : ∀ w : World, (Instr.typeAssert (.iface 154 (.agg #[.int .i64 c, .string s])) 20 143 true).run Tryz.prog w = .ok (.tuple #[.string ⟨#[]⟩, .bool false]) w := fun w => asto_no (z := .string ⟨#[]⟩) Tryz.underlying143 (fun m h => by cases h) (by kernel_rfl) (by decide)
  have a5 : ∀ w : World, (Instr.typeAssert (.iface 154 (.agg #[.int .i64 c, .string s])) 20 144 true).run Tryz.prog w = .ok (.tuple #[.bool false, .bool false]) w := fun w => asto_no (z := .bool false) Tryz.underlying144 (fun m h => by cases h) (by kernel_rfl) (by decide)
  have a6 : ∀ w : World, (Instr.typeAssert (.iface 154 (.agg #[.int .i64 c, .string s])) 20 147 true).run Tryz.prog w = .ok (.tuple #[.slice none 0 0, .bool false]) w := fun w => asto_no (z := .slice none 0 0) Tryz.underlying147 (fun m h => by cases h) (by kernel_rfl) (by decide)
  have a7 : ∀ w : World, (Instr.typeAssert (.iface 154 (.agg #[.int .i64 c, .string s])) 20 149 true).run Tryz.prog w = .ok (.tuple #[.slice none 0 0, .bool false]) w := fun w => asto_no (z := .slice none 0 0) Tryz.underlying149 (fun m h => by cases h) (by kernel_rfl) (by decide)
  have a8 : ∀ w : World, (Instr.typeAssert (.iface 154 (.agg #[.int .i64 c, .string s])) 20 152 true).run Tryz.prog w = .ok (.tuple #[.agg #[.nilIface, .nilIface], .bool false]) w := fun w => asto_no (z := .agg #[.nilIface, .nilIface]) Tryz.underlying152 (fun m h => by cases h) (by kernel_rfl) (by decide)
  have a9 : ∀ w : World, (Instr.typeAssert (.iface 154 (.agg #[.int .i64 c, .string s])) 20 154 true).run Tryz.prog w = .ok (.tuple #[.agg #[.int .i64 c, .string s], .bool true]) w := fun w => asto_yes (z := .agg #[.int .i64 0, .string ⟨#[]⟩]) Tryz.underlying154 (fun m h => by cases h) (by kernel_rfl)
  go_enter Tryz.func82, Tryz.ntmps82
  go_wp2
  refine bodyPost_ret (v := .agg #[.int .i64 10, .int .i64 c, .int .u64 0, .string s, .slice none 0 0]) (by simp [results, Tryz.results82, go_sem]) rfl ⟨rfl, ?_⟩
  first | exact below1 w _ | exact below2 w _ _

set_option maxRecDepth 100000 in
set_option maxHeartbeats 2000000 in
theorem pl13 (w : World) : Calls Tryz.prog 82 #[.iface 157 (.agg #[])] w fun e w' => e = .returned (.agg #[.int .i64 13, .int .i64 0, .int .u64 0, .string ⟨#[]⟩, .slice none 0 0]) ∧ Below w.heap.size w w' := by
  have a0 : ∀ w : World, (Instr.typeAssert (.iface 157 (.agg #[])) 20 140 true).run Tryz.prog w = .ok (.tuple #[.int .i64 0, .bool false]) w := fun w => asto_no (z := .int .i64 0) Tryz.underlying140 (fun m h => by cases h) (by kernel_rfl) (by decide)
  have a1 : ∀ w : World, (Instr.typeAssert (.iface 157 (.agg #[])) 20 141 true).run Tryz.prog w = .ok (.tuple #[.int .i64 0, .bool false]) w := fun w => asto_no (z := .int .i64 0) Tryz.underlying141 (fun m h => by cases h) (by kernel_rfl) (by decide)
  have a2 : ∀ w : World, (Instr.typeAssert (.iface 157 (.agg #[])) 20 142 true).run Tryz.prog w = .ok (.tuple #[.float .f64 0, .bool false]) w := fun w => asto_no (z := .float .f64 0) Tryz.underlying142 (fun m h => by cases h) (by kernel_rfl) (by decide)
  have a3 : ∀ w : World, (Instr.typeAssert (.iface 157 (.agg #[])) 20 101 true).run Tryz.prog w = .ok (.tuple #[.string ⟨#[]⟩, .bool false]) w := fun w => asto_no (z := .string ⟨#[]⟩) Tryz.underlying101 (fun m h => by cases h) (by kernel_rfl) (by decide)
  have a4 : ∀ w : World, (Instr.typeAssert (.iface 157 (.agg #[])) 20 143 true).run Tryz.prog w = .ok (.tuple #[.string ⟨#[]⟩, .bool false]) w := fun w => asto_no (z := .string ⟨#[]⟩) Tryz.underlying143 (fun m h => by cases h) (by kernel_rfl) (by decide)
  have a5 : ∀ w : World, (Instr.typeAssert (.iface 157 (.agg #[])) 20 144 true).run Tryz.prog w = .ok (.tuple #[.bool false, .bool false]) w := fun w => asto_no (z := .bool false) Tryz.underlying144 (fun m h => by cases h) (by kernel_rfl) (by decide)
  have a6 : ∀ w : World, (Instr.typeAssert (.iface 157 (.agg #[])) 20 147 true).run Tryz.prog w = .ok (.tuple #[.slice none 0 0, .bool false]) w := fun w => asto_no (z := .slice none 0 0) Tryz.underlying147 (fun m h => by cases h) (by kernel_rfl) (by decide)
  have a7 : ∀ w : World, (Instr.typeAssert (.iface 157 (.agg #[])) 20 149 true).run Tryz.prog w = .ok (.tuple #[.slice none 0 0, .bool false]) w := fun w => asto_no (z := .slice none 0 0) Tryz.underlying149 (fun m h => by cases h) (by kernel_rfl) (by decide)
  have a8 : ∀ w : World, (Instr.typeAssert (.iface 157 (.agg #[])) 20 152 true).run Tryz.prog w = .ok (.tuple #[.agg #[.nilIface, .nilIface], .bool false]) w := fun w => asto_no (z := .agg #[.nilIface, .nilIface]) Tryz.underlying152 (fun m h => by cases h) (by kernel_rfl) (by decide)
  have a9 : ∀ w : World, (Instr.typeAssert (.iface 157 (.agg #[])) 20 154 true).run Tryz.prog w = .ok (.tuple #[.agg #[.int .i64 0, .string ⟨#[]⟩], .bool false]) w := fun w => asto_no (z := .agg #[.int .i64 0, .string ⟨#[]⟩]) Tryz.underlying154 (fun m h => by cases h) (by kernel_rfl) (by decide)
  have a10 : ∀ w : World, (Instr.typeAssert (.iface 157 (.agg #[])) 20 155 true).run Tryz.prog w = .ok (.tuple #[.pointer none, .bool false]) w := fun w => asto_no (z := .pointer none) Tryz.underlying155 (fun m h => by cases h) (by kernel_rfl) (by decide)
  have a11 : ∀ w : World, (Instr.typeAssert (.iface 157 (.agg #[])) 20 157 true).run Tryz.prog w = .ok (.tuple #[.agg #[], .bool true]) w := fun w => asto_yes (z := .agg #[]) Tryz.underlying157 (fun m h => by cases h) (by kernel_rfl)
  go_enter Tryz.func82, Tryz.ntmps82
  go_wp2
  refine bodyPost_ret (v := .agg #[.int .i64 13, .int .i64 0, .int .u64 0, .string ⟨#[]⟩, .slice none 0 0]) (by simp [results, Tryz.results82, go_sem]) rfl ⟨rfl, ?_⟩
  first | exact below1 w _ | exact below2 w _ _
end Go.Proofs.YtajagjcfmaggiaaGreatDoor.Dt
