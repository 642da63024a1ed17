/- A core at work on a state: which handler it is, for every core; the work's block; no condition. -/
import Derived.Test.YthgfijhbeahkhaaGreatDoorHa
namespace Go.Proofs.YthgfijhbeahkhaaGreatDoor
open Go.RowKit

/-- The handler of a core. -/
def hnd (op num : Int) (p : Option Addr) (sb : Nat) : Value :=
  if op = 1 then .iface 127 (.agg #[]) else if op = 2 then .iface 129 (.agg #[.pointer p]) else if op = 3 then .iface 130 (.pointer (some ⟨sb, 0, none⟩))
  else if op = 4 then .iface 137 (.agg #[.pointer p]) else if op = 5 then .iface 138 (.agg #[]) else if op = 6 then .iface 139 (.agg #[])
  else if op = 7 then .iface 141 (.agg #[.int .i64 num]) else if op = 8 then .iface 143 (.agg #[.int .i64 num]) else if op = 9 then .iface 145 (.agg #[.int .i64 num])
  else if op = 10 then .iface 146 (.agg #[]) else if op = 12 then .iface 147 (.agg #[.pointer p]) else .iface 148 (.agg #[])

/-- The block of a store, where the core is one. -/
def HB (op num : Int) (p : Option Addr) (sb : Nat) (w w' : World) : Prop := op = 3 → Bk w' sb #[.pointer p, .int .i64 num, .map none, .map none] 136 ∧ w.heap.size ≤ sb

set_option maxRecDepth 100000 in
set_option maxHeartbeats 1000000 in
theorem handlerOf_1 (num cp : Int) (p : Addr) (w : World) : Calls Tryz.prog 65 #[.agg #[.int .i64 1, .int .i64 num, .int .u32 cp], .pointer (some p)] w fun e w' => ∃ sb, e = .returned (hnd 1 num (some p) sb) ∧ HB 1 num (some p) sb w w' ∧ Below w.heap.size w w' := by
  go_enter Tryz.func65, Tryz.ntmps65
  go_wp2
  go_ret
  exact ⟨0, rfl, fun h => absurd h (by decide), below1 w _⟩

set_option maxRecDepth 100000 in
set_option maxHeartbeats 1000000 in
theorem handlerOf_2 (num cp : Int) (p : Addr) (w : World) : Calls Tryz.prog 65 #[.agg #[.int .i64 2, .int .i64 num, .int .u32 cp], .pointer (some p)] w fun e w' => ∃ sb, e = .returned (hnd 2 num (some p) sb) ∧ HB 2 num (some p) sb w w' ∧ Below w.heap.size w w' := by
  go_enter Tryz.func65, Tryz.ntmps65
  go_wp2
  go_ret
  exact ⟨0, rfl, fun h => absurd h (by decide), below1 w _⟩

set_option maxRecDepth 100000 in
set_option maxHeartbeats 1000000 in
theorem handlerOf_3 (num cp : Int) (p : Addr) (w : World) : Calls Tryz.prog 65 #[.agg #[.int .i64 3, .int .i64 num, .int .u32 cp], .pointer (some p)] w fun e w' => ∃ sb, e = .returned (hnd 3 num (some p) sb) ∧ HB 3 num (some p) sb w w' ∧ Below w.heap.size w w' := by
  go_enter Tryz.func65, Tryz.ntmps65
  go_wp2
  go_ret
  exact ⟨w.heap.size + 1, rfl, fun _ => ⟨Bk.new2 _ _ _ _, by omega⟩, below2 w _ _⟩

set_option maxRecDepth 100000 in
set_option maxHeartbeats 1000000 in
theorem handlerOf_4 (num cp : Int) (p : Addr) (w : World) : Calls Tryz.prog 65 #[.agg #[.int .i64 4, .int .i64 num, .int .u32 cp], .pointer (some p)] w fun e w' => ∃ sb, e = .returned (hnd 4 num (some p) sb) ∧ HB 4 num (some p) sb w w' ∧ Below w.heap.size w w' := by
  go_enter Tryz.func65, Tryz.ntmps65
  go_wp2
  go_ret
  exact ⟨0, rfl, fun h => absurd h (by decide), below1 w _⟩

set_option maxRecDepth 100000 in
set_option maxHeartbeats 1000000 in
theorem handlerOf_5 (num cp : Int) (p : Addr) (w : World) : Calls Tryz.prog 65 #[.agg #[.int .i64 5, .int .i64 num, .int .u32 cp], .pointer (some p)] w fun e w' => ∃ sb, e = .returned (hnd 5 num (some p) sb) ∧ HB 5 num (some p) sb w w' ∧ Below w.heap.size w w' := by
  go_enter Tryz.func65, Tryz.ntmps65
  go_wp2
  go_ret
  exact ⟨0, rfl, fun h => absurd h (by decide), below1 w _⟩

set_option maxRecDepth 100000 in
set_option maxHeartbeats 1000000 in
theorem handlerOf_6 (num cp : Int) (p : Addr) (w : World) : Calls Tryz.prog 65 #[.agg #[.int .i64 6, .int .i64 num, .int .u32 cp], .pointer (some p)] w fun e w' => ∃ sb, e = .returned (hnd 6 num (some p) sb) ∧ HB 6 num (some p) sb w w' ∧ Below w.heap.size w w' := by
  go_enter Tryz.func65, Tryz.ntmps65
  go_wp2
  go_ret
  exact ⟨0, rfl, fun h => absurd h (by decide), below1 w _⟩

set_option maxRecDepth 100000 in
set_option maxHeartbeats 1000000 in
theorem handlerOf_7 (num cp : Int) (p : Addr) (w : World) : Calls Tryz.prog 65 #[.agg #[.int .i64 7, .int .i64 num, .int .u32 cp], .pointer (some p)] w fun e w' => ∃ sb, e = .returned (hnd 7 num (some p) sb) ∧ HB 7 num (some p) sb w w' ∧ Below w.heap.size w w' := by
  go_enter Tryz.func65, Tryz.ntmps65
  go_wp2
  go_ret
  exact ⟨0, rfl, fun h => absurd h (by decide), below1 w _⟩

set_option maxRecDepth 100000 in
set_option maxHeartbeats 1000000 in
theorem handlerOf_8 (num cp : Int) (p : Addr) (w : World) : Calls Tryz.prog 65 #[.agg #[.int .i64 8, .int .i64 num, .int .u32 cp], .pointer (some p)] w fun e w' => ∃ sb, e = .returned (hnd 8 num (some p) sb) ∧ HB 8 num (some p) sb w w' ∧ Below w.heap.size w w' := by
  go_enter Tryz.func65, Tryz.ntmps65
  go_wp2
  go_ret
  exact ⟨0, rfl, fun h => absurd h (by decide), below1 w _⟩

set_option maxRecDepth 100000 in
set_option maxHeartbeats 1000000 in
theorem handlerOf_9 (num cp : Int) (p : Addr) (w : World) : Calls Tryz.prog 65 #[.agg #[.int .i64 9, .int .i64 num, .int .u32 cp], .pointer (some p)] w fun e w' => ∃ sb, e = .returned (hnd 9 num (some p) sb) ∧ HB 9 num (some p) sb w w' ∧ Below w.heap.size w w' := by
  go_enter Tryz.func65, Tryz.ntmps65
  go_wp2
  go_ret
  exact ⟨0, rfl, fun h => absurd h (by decide), below1 w _⟩

set_option maxRecDepth 100000 in
set_option maxHeartbeats 1000000 in
theorem handlerOf_10 (num cp : Int) (p : Addr) (w : World) : Calls Tryz.prog 65 #[.agg #[.int .i64 10, .int .i64 num, .int .u32 cp], .pointer (some p)] w fun e w' => ∃ sb, e = .returned (hnd 10 num (some p) sb) ∧ HB 10 num (some p) sb w w' ∧ Below w.heap.size w w' := by
  go_enter Tryz.func65, Tryz.ntmps65
  go_wp2
  go_ret
  exact ⟨0, rfl, fun h => absurd h (by decide), below1 w _⟩

set_option maxRecDepth 100000 in
set_option maxHeartbeats 1000000 in
theorem handlerOf_11 (num cp : Int) (p : Addr) (w : World) : Calls Tryz.prog 65 #[.agg #[.int .i64 11, .int .i64 num, .int .u32 cp], .pointer (some p)] w fun e w' => ∃ sb, e = .returned (hnd 11 num (some p) sb) ∧ HB 11 num (some p) sb w w' ∧ Below w.heap.size w w' := by
  go_enter Tryz.func65, Tryz.ntmps65
  go_wp2
  go_ret
  exact ⟨0, rfl, fun h => absurd h (by decide), below1 w _⟩

set_option maxRecDepth 100000 in
set_option maxHeartbeats 1000000 in
theorem handlerOf_12 (num cp : Int) (p : Addr) (w : World) : Calls Tryz.prog 65 #[.agg #[.int .i64 12, .int .i64 num, .int .u32 cp], .pointer (some p)] w fun e w' => ∃ sb, e = .returned (hnd 12 num (some p) sb) ∧ HB 12 num (some p) sb w w' ∧ Below w.heap.size w w' := by
  go_enter Tryz.func65, Tryz.ntmps65
  go_wp2
  go_ret
  exact ⟨0, rfl, fun h => absurd h (by decide), below1 w _⟩

theorem handlerOf_any (op num cp : Int) (p : Addr) (w : World) (h1 : 1 ≤ op) (h2 : op ≤ 12) : Calls Tryz.prog 65 #[.agg #[.int .i64 op, .int .i64 num, .int .u32 cp], .pointer (some p)] w fun e w' => ∃ sb, e = .returned (hnd op num (some p) sb) ∧ HB op num (some p) sb w w' ∧ Below w.heap.size w w' := by
  obtain rfl | rfl | rfl | rfl | rfl | rfl | rfl | rfl | rfl | rfl | rfl | rfl : op = 1 ∨ op = 2 ∨ op = 3 ∨ op = 4 ∨ op = 5 ∨ op = 6 ∨ op = 7 ∨ op = 8 ∨ op = 9 ∨ op = 10 ∨ op = 11 ∨ op = 12 := by omega
  · exact handlerOf_1 num cp p w
  · exact handlerOf_2 num cp p w
  · exact handlerOf_3 num cp p w
  · exact handlerOf_4 num cp p w
  · exact handlerOf_5 num cp p w
  · exact handlerOf_6 num cp p w
  · exact handlerOf_7 num cp p w
  · exact handlerOf_8 num cp p w
  · exact handlerOf_9 num cp p w
  · exact handlerOf_10 num cp p w
  · exact handlerOf_11 num cp p w
  · exact handlerOf_12 num cp p w
end Go.Proofs.YthgfijhbeahkhaaGreatDoor
