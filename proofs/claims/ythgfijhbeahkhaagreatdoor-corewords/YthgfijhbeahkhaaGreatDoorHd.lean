/- What is told of an answer, an error and a panic; something called whose panic is caught; the conditions: what it comes to. -/
import Derived.Test.YthgfijhbeahkhaaGreatDoorHa
namespace Go.Proofs.YthgfijhbeahkhaaGreatDoor
open Go.RowKit

/-- The cells of a result. -/
abbrev rcs (er co pk pn : Int) (has : Bool) (k i u : Int) (s : ByteArray) (a : Option Addr) (n c : Nat) : Array Value :=
  #[.int .i64 er, .int .i64 co, .int .i64 pk, .int .i64 pn, .bool has, .int .i64 k, .int .i64 i, .int .u64 u, .string s, .slice a n c]
abbrev rErr (er co pk pn : Int) : Array Value := rcs er co pk pn false 0 0 0 ⟨#[]⟩ none 0 0

theorem as_yes {P : Program} {t x : TypeId} {d : TypeDesc} {v z : Value} {w : World} (hU : P.underlying t = some d) (hd : ∀ m, d ≠ .interface m) (hz : (zeroValue t).run P w = .ok z w) : (Instr.typeAssert (.iface t v) x t true).run P w = .ok (.tuple #[v, .bool true]) w := by
  have h := assert_to (t := t) (x := x) (v := v) hU hd hz
  simpa using h
theorem as_no {P : Program} {t x asserted : TypeId} {d : TypeDesc} {v z : Value} {w : World} (hU : P.underlying asserted = some d) (hd : ∀ m, d ≠ .interface m) (hz : (zeroValue asserted).run P w = .ok z w) (hne : t ≠ asserted) : (Instr.typeAssert (.iface t v) x asserted true).run P w = .ok (.tuple #[z, .bool false]) w := by
  have h := assert_to (t := t) (x := x) (v := v) hU hd hz
  simpa [hne] using h

set_option maxRecDepth 100000 in
set_option maxHeartbeats 1000000 in
theorem told_answer (has : Bool) (k i u : Int) (s : ByteArray) (a : Option Addr) (n c : Nat) (w : World) :
    Calls Tryz.prog 68 #[.agg #[.bool has, .int .i64 k, .int .i64 i, .int .u64 u, .string s, .slice a n c], .nilIface] w fun e w' => e = .returned (.agg (rcs 0 0 0 0 has k i u s a n c)) ∧ Below w.heap.size w w' := by
  have a0 : ∀ w : World, (Instr.typeAssert .nilIface 109 35 true).run Tryz.prog w = .ok (.tuple #[.int .i64 0, .bool false]) w := fun w => assert_nil Tryz.underlying35 (by kernel_rfl)
  have a1 : ∀ w : World, (Instr.typeAssert .nilIface 109 150 true).run Tryz.prog w = .ok (.tuple #[.pointer none, .bool false]) w := fun w => assert_nil Tryz.underlying150 (by kernel_rfl)
  go_enter Tryz.func68, Tryz.ntmps68
  go_wp2
  exact bodyPost_ret (v := .agg (rcs 0 0 0 0 has k i u s a n c)) (by simp [results, Tryz.results68, go_sem]) rfl ⟨rfl, below2 w _ _⟩

set_option maxRecDepth 100000 in
set_option maxHeartbeats 1000000 in
theorem told_errno (has : Bool) (k i u : Int) (s : ByteArray) (a : Option Addr) (n c : Nat) (er : Int) (w : World) :
    Calls Tryz.prog 68 #[.agg #[.bool has, .int .i64 k, .int .i64 i, .int .u64 u, .string s, .slice a n c], .iface 35 (.int .i64 er)] w fun e w' => e = .returned (.agg (rErr er 0 0 0)) ∧ Below w.heap.size w w' := by
  have a0 : ∀ w : World, (Instr.typeAssert (.iface 35 (.int .i64 er)) 109 35 true).run Tryz.prog w = .ok (.tuple #[.int .i64 er, .bool true]) w := fun w => as_yes Tryz.underlying35 (fun m h => by cases h) (z := .int .i64 0) (by kernel_rfl)
  go_enter Tryz.func68, Tryz.ntmps68
  go_wp2
  exact bodyPost_ret (v := .agg (rErr er 0 0 0)) (by simp [results, Tryz.results68, go_sem]) rfl ⟨rfl, below2 w _ _⟩

set_option maxRecDepth 100000 in
set_option maxHeartbeats 1000000 in
theorem told_nobody (has : Bool) (k i u : Int) (s : ByteArray) (a : Option Addr) (n c : Nat) (w : World) :
    Calls Tryz.prog 68 #[.agg #[.bool has, .int .i64 k, .int .i64 i, .int .u64 u, .string s, .slice a n c], .iface 150 (.pointer none)] w fun e w' => e = .returned (.agg (rErr 101 0 0 0)) ∧ Below w.heap.size w w' := by
  have a0 : ∀ w : World, (Instr.typeAssert (.iface 150 (.pointer none)) 109 35 true).run Tryz.prog w = .ok (.tuple #[.int .i64 0, .bool false]) w := fun w => as_no Tryz.underlying35 (fun m h => by cases h) (by kernel_rfl) (by decide)
  have a1 : ∀ w : World, (Instr.typeAssert (.iface 150 (.pointer none)) 109 150 true).run Tryz.prog w = .ok (.tuple #[.pointer none, .bool true]) w := fun w => as_yes Tryz.underlying150 (fun m h => by cases h) (z := .pointer none) (by kernel_rfl)
  go_enter Tryz.func68, Tryz.ntmps68
  go_wp2
  exact bodyPost_ret (v := .agg (rErr 101 0 0 0)) (by simp [results, Tryz.results68, go_sem]) rfl ⟨rfl, below2 w _ _⟩

set_option maxRecDepth 100000 in
set_option maxHeartbeats 1000000 in
theorem told_failure (has : Bool) (k i u : Int) (s : ByteArray) (a : Option Addr) (n c : Nat) (f : Nat) (co : Int) (w : World) (hl : f < w.heap.size) (hf : w.cell? ⟨f, 0, none⟩ = some (.int .i64 co)) :
    Calls Tryz.prog 68 #[.agg #[.bool has, .int .i64 k, .int .i64 i, .int .u64 u, .string s, .slice a n c], .iface 150 (.pointer (some ⟨f, 0, none⟩))] w fun e w' => e = .returned (.agg (rErr 100 co 0 0)) ∧ Below w.heap.size w w' := by
  have hf2 : ∀ o p, ((w.alloc o).alloc p).cell? ⟨f, 0, none⟩ = some (.int .i64 co) := fun o p => ((below2 w o p).cell (p := ⟨f, 0, none⟩) hl).trans hf
  clear hf
  have a0 : ∀ w : World, (Instr.typeAssert (.iface 150 (.pointer (some ⟨f, 0, none⟩))) 109 35 true).run Tryz.prog w = .ok (.tuple #[.int .i64 0, .bool false]) w := fun w => as_no Tryz.underlying35 (fun m h => by cases h) (by kernel_rfl) (by decide)
  have a1 : ∀ w : World, (Instr.typeAssert (.iface 150 (.pointer (some ⟨f, 0, none⟩))) 109 150 true).run Tryz.prog w = .ok (.tuple #[.pointer (some ⟨f, 0, none⟩), .bool true]) w := fun w => as_yes Tryz.underlying150 (fun m h => by cases h) (z := .pointer none) (by kernel_rfl)
  go_enter Tryz.func68, Tryz.ntmps68
  go_wp2
  exact bodyPost_ret (v := .agg (rErr 100 co 0 0)) (by simp [results, Tryz.results68, go_sem]) rfl ⟨rfl, below2 w _ _⟩

set_option maxRecDepth 100000 in
set_option maxHeartbeats 1000000 in
theorem ptold_assert (x : Int) (w : World) :
    Calls Tryz.prog 87 #[.iface 165 (.int .i64 x)] w fun e w' => e = .returned (.agg #[.int .i64 2, .int .i64 x]) ∧ Below w.heap.size w w' := by
  have a0 : ∀ w : World, (Instr.typeAssert (.iface 165 (.int .i64 x)) 20 165 true).run Tryz.prog w = .ok (.tuple #[.int .i64 x, .bool true]) w := fun w => as_yes Tryz.underlying165 (fun m h => by cases h) (z := .int .i64 0) (by kernel_rfl)
  go_enter Tryz.func87, Tryz.ntmps87
  go_wp2
  exact bodyPost_ret (v := .agg #[.int .i64 2, .int .i64 x]) (by simp [results, Tryz.results87, go_sem]) rfl ⟨rfl, by first | exact below1 _ _ | exact below2 _ _ _⟩

set_option maxRecDepth 100000 in
set_option maxHeartbeats 1000000 in
theorem ptold_nil  (w : World) :
    Calls Tryz.prog 87 #[.iface 166 (.agg #[])] w fun e w' => e = .returned (.agg #[.int .i64 3, .int .i64 0]) ∧ Below w.heap.size w w' := by
  have a0 : ∀ w : World, (Instr.typeAssert (.iface 166 (.agg #[])) 20 165 true).run Tryz.prog w = .ok (.tuple #[.int .i64 0, .bool false]) w := fun w => as_no Tryz.underlying165 (fun m h => by cases h) (by kernel_rfl) (by decide)
  have a1 : ∀ w : World, (Instr.typeAssert (.iface 166 (.agg #[])) 20 166 true).run Tryz.prog w = .ok (.tuple #[.agg #[], .bool true]) w := fun w => as_yes Tryz.underlying166 (fun m h => by cases h) (z := .agg #[]) (by kernel_rfl)
  go_enter Tryz.func87, Tryz.ntmps87
  go_wp2
  exact bodyPost_ret (v := .agg #[.int .i64 3, .int .i64 0]) (by simp [results, Tryz.results87, go_sem]) rfl ⟨rfl, by first | exact below1 _ _ | exact below2 _ _ _⟩

set_option maxRecDepth 100000 in
set_option maxHeartbeats 1000000 in
theorem ptold_index (x : Int) (w : World) :
    Calls Tryz.prog 87 #[.iface 167 (.int .i64 x)] w fun e w' => e = .returned (.agg #[.int .i64 4, .int .i64 x]) ∧ Below w.heap.size w w' := by
  have a0 : ∀ w : World, (Instr.typeAssert (.iface 167 (.int .i64 x)) 20 165 true).run Tryz.prog w = .ok (.tuple #[.int .i64 0, .bool false]) w := fun w => as_no Tryz.underlying165 (fun m h => by cases h) (by kernel_rfl) (by decide)
  have a1 : ∀ w : World, (Instr.typeAssert (.iface 167 (.int .i64 x)) 20 166 true).run Tryz.prog w = .ok (.tuple #[.agg #[], .bool false]) w := fun w => as_no Tryz.underlying166 (fun m h => by cases h) (by kernel_rfl) (by decide)
  have a2 : ∀ w : World, (Instr.typeAssert (.iface 167 (.int .i64 x)) 20 167 true).run Tryz.prog w = .ok (.tuple #[.int .i64 x, .bool true]) w := fun w => as_yes Tryz.underlying167 (fun m h => by cases h) (z := .int .i64 0) (by kernel_rfl)
  go_enter Tryz.func87, Tryz.ntmps87
  go_wp2
  exact bodyPost_ret (v := .agg #[.int .i64 4, .int .i64 x]) (by simp [results, Tryz.results87, go_sem]) rfl ⟨rfl, by first | exact below1 _ _ | exact below2 _ _ _⟩

set_option maxRecDepth 100000 in
set_option maxHeartbeats 1000000 in
theorem ptold_own (x : Int) (w : World) :
    Calls Tryz.prog 87 #[.iface 168 (.int .i64 x)] w fun e w' => e = .returned (.agg #[.int .i64 1, .int .i64 x]) ∧ Below w.heap.size w w' := by
  have a0 : ∀ w : World, (Instr.typeAssert (.iface 168 (.int .i64 x)) 20 165 true).run Tryz.prog w = .ok (.tuple #[.int .i64 0, .bool false]) w := fun w => as_no Tryz.underlying165 (fun m h => by cases h) (by kernel_rfl) (by decide)
  have a1 : ∀ w : World, (Instr.typeAssert (.iface 168 (.int .i64 x)) 20 166 true).run Tryz.prog w = .ok (.tuple #[.agg #[], .bool false]) w := fun w => as_no Tryz.underlying166 (fun m h => by cases h) (by kernel_rfl) (by decide)
  have a2 : ∀ w : World, (Instr.typeAssert (.iface 168 (.int .i64 x)) 20 167 true).run Tryz.prog w = .ok (.tuple #[.int .i64 0, .bool false]) w := fun w => as_no Tryz.underlying167 (fun m h => by cases h) (by kernel_rfl) (by decide)
  have a3 : ∀ w : World, (Instr.typeAssert (.iface 168 (.int .i64 x)) 20 168 true).run Tryz.prog w = .ok (.tuple #[.int .i64 x, .bool true]) w := fun w => as_yes Tryz.underlying168 (fun m h => by cases h) (z := .int .i64 0) (by kernel_rfl)
  go_enter Tryz.func87, Tryz.ntmps87
  go_wp2
  exact bodyPost_ret (v := .agg #[.int .i64 1, .int .i64 x]) (by simp [results, Tryz.results87, go_sem]) rfl ⟨rfl, by first | exact below1 _ _ | exact below2 _ _ _⟩

set_option maxRecDepth 100000 in
set_option maxHeartbeats 1000000 in
theorem ptold_error (x : Int) (t : ByteArray) (w : World) :
    Calls Tryz.prog 87 #[.iface 152 (.agg #[.int .i64 x, .string t])] w fun e w' => e = .returned (.agg #[.int .i64 7, .int .i64 x]) ∧ Below w.heap.size w w' := by
  have a0 : ∀ w : World, (Instr.typeAssert (.iface 152 (.agg #[.int .i64 x, .string t])) 20 165 true).run Tryz.prog w = .ok (.tuple #[.int .i64 0, .bool false]) w := fun w => as_no Tryz.underlying165 (fun m h => by cases h) (by kernel_rfl) (by decide)
  have a1 : ∀ w : World, (Instr.typeAssert (.iface 152 (.agg #[.int .i64 x, .string t])) 20 166 true).run Tryz.prog w = .ok (.tuple #[.agg #[], .bool false]) w := fun w => as_no Tryz.underlying166 (fun m h => by cases h) (by kernel_rfl) (by decide)
  have a2 : ∀ w : World, (Instr.typeAssert (.iface 152 (.agg #[.int .i64 x, .string t])) 20 167 true).run Tryz.prog w = .ok (.tuple #[.int .i64 0, .bool false]) w := fun w => as_no Tryz.underlying167 (fun m h => by cases h) (by kernel_rfl) (by decide)
  have a3 : ∀ w : World, (Instr.typeAssert (.iface 152 (.agg #[.int .i64 x, .string t])) 20 168 true).run Tryz.prog w = .ok (.tuple #[.int .i64 0, .bool false]) w := fun w => as_no Tryz.underlying168 (fun m h => by cases h) (by kernel_rfl) (by decide)
  have a4 : ∀ w : World, (Instr.typeAssert (.iface 152 (.agg #[.int .i64 x, .string t])) 20 152 true).run Tryz.prog w = .ok (.tuple #[.agg #[.int .i64 x, .string t], .bool true]) w := fun w => as_yes Tryz.underlying152 (fun m h => by cases h) (z := .agg #[.int .i64 0, .string ⟨#[]⟩]) (by kernel_rfl)
  go_enter Tryz.func87, Tryz.ntmps87
  go_wp2
  exact bodyPost_ret (v := .agg #[.int .i64 7, .int .i64 x]) (by simp [results, Tryz.results87, go_sem]) rfl ⟨rfl, by first | exact below1 _ _ | exact below2 _ _ _⟩
end Go.Proofs.YthgfijhbeahkhaaGreatDoor
