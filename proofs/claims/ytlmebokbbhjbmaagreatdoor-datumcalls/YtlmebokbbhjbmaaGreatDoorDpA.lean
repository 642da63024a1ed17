/- The package's Plain of values without parts: the plain data; no condition. -/
import Derived.Test.YtlmebokbbhjbmaaGreatDoorDvN
namespace Go.Proofs.YtlmebokbbhjbmaaGreatDoor.Dt
open Go.RowKit
/-- The tree t lies in w behind the five cells cs, in blocks of which F tells. -/
def Rf (F : Nat → Prop) (w : World) : (n : Nat) → List Value → Tr n → Prop
  | 0, _, _ => False
  | n + 1, cs, t => ∃ (ad : Option Addr) (cap : Nat), cs = [.int .i64 t.kd, .int .i64 t.it, .int .u64 t.ut, .string t.tx, .slice ad t.ks.length cap] ∧ t.tx.size ≤ maxLen ∧ t.ks.length ≤ cap ∧ cap ≤ maxLen ∧
      (t.ks = [] ∨ ∃ g o, ad = some ⟨g, o, none⟩ ∧ F g ∧ ∀ (j : Nat) (t' : Tr n), t.ks[j]? = some t' → ∃ v0 v1 v2 v3 v4, w.cell? ⟨g, o + j * 5, none⟩ = some v0 ∧ w.cell? ⟨g, o + j * 5 + 1, none⟩ = some v1 ∧ w.cell? ⟨g, o + j * 5 + 2, none⟩ = some v2 ∧ w.cell? ⟨g, o + j * 5 + 3, none⟩ = some v3 ∧ w.cell? ⟨g, o + j * 5 + 4, none⟩ = some v4 ∧ Rf F w n [v0, v1, v2, v3, v4] t')
theorem Rf.rep {F : Nat → Prop} {w : World} : ∀ (n : Nat) (cs : List Value) (t : Tr n), Rf F w n cs t → Rep w n cs t
  | 0, _, _, h => h
  | n + 1, cs, t, h => by
    obtain ⟨ad, cap, h1, h2, h3, h4, h5⟩ := h
    refine ⟨ad, cap, h1, h2, h3, h4, ?_⟩
    rcases h5 with h5 | ⟨g, o, h6, -, h7⟩
    · exact .inl h5
    · refine .inr ⟨g, o, h6, fun j t' hj => ?_⟩
      obtain ⟨v0, v1, v2, v3, v4, c0, c1, c2, c3, c4, r⟩ := h7 j t' hj
      exact ⟨v0, v1, v2, v3, v4, c0, c1, c2, c3, c4, Rf.rep n _ _ r⟩
theorem Rf.to {F F' : Nat → Prop} {w w' : World} (hF : ∀ g, F g → F' g ∧ w'.heap[g]? = w.heap[g]?) : ∀ (n : Nat) (cs : List Value) (t : Tr n), Rf F w n cs t → Rf F' w' n cs t
  | 0, _, _, h => h
  | n + 1, cs, t, h => by
    obtain ⟨ad, cap, h1, h2, h3, h4, h5⟩ := h
    refine ⟨ad, cap, h1, h2, h3, h4, ?_⟩
    rcases h5 with h5 | ⟨g, o, h6, hg, h7⟩
    · exact .inl h5
    · obtain ⟨hg', hh⟩ := hF g hg
      refine .inr ⟨g, o, h6, hg', fun j t' hj => ?_⟩
      obtain ⟨v0, v1, v2, v3, v4, c0, c1, c2, c3, c4, r⟩ := h7 j t' hj
      exact ⟨v0, v1, v2, v3, v4, (cell_heap hh).trans c0, (cell_heap hh).trans c1, (cell_heap hh).trans c2, (cell_heap hh).trans c3, (cell_heap hh).trans c4, Rf.to hF n _ _ r⟩
/-- The bits of a tree are within 64. -/
def r64 : (n : Nat) → Tr n → Prop
  | 0, _ => False
  | n + 1, t => (0 ≤ t.ut ∧ t.ut < 18446744073709551616) ∧ ∀ s ∈ t.ks, r64 n s
theorem asto_yes {P : Program} {t x : TypeId} {d : TypeDesc} {v z : Value} {w : World} (hU : P.underlying t = some d) (hd : ∀ m, d ≠ .interface m) (hz : (zeroValue t).run P w = .ok z w) : (Instr.typeAssert (.iface t v) x t true).run P w = .ok (.tuple #[v, .bool true]) w := by
  have := assert_to (t := t) (x := x) (v := v) hU hd hz
  simpa using this
theorem asto_no {P : Program} {t x asserted : TypeId} {d : TypeDesc} {v z : Value} {w : World} (hU : P.underlying asserted = some d) (hd : ∀ m, d ≠ .interface m) (hz : (zeroValue asserted).run P w = .ok z w) (hne : t ≠ asserted) : (Instr.typeAssert (.iface t v) x asserted true).run P w = .ok (.tuple #[z, .bool false]) w := by
  have := assert_to (t := t) (x := x) (v := v) hU hd hz
  simpa [hne] using this
theorem tobits (n : Nat) (w : World) : (callFunc 32 #[.float .f64 n]).run Tryz.prog w = .ok (.value (.int .u64 (n : Int))) w := by kernel_rfl

set_option maxRecDepth 100000 in
theorem plTruth (b : Bool) (w : World) : Calls Tryz.prog 38 #[.bool b] w fun e w' => e = .returned (.agg #[.int .i64 6, .int .i64 (if b then 1 else 0), .int .u64 0, .string ⟨#[]⟩, .slice none 0 0]) ∧ Below w.heap.size w w' := by
  cases b
  all_goals
    go_enter Tryz.func38, Tryz.ntmps38
    go_wp2
    refine bodyPost_ret (v := .agg #[.int .i64 6, .int .i64 _, .int .u64 0, .string ⟨#[]⟩, .slice none 0 0]) (by simp [results, Tryz.results38, go_sem]) rfl ⟨rfl, ?_⟩
    exact below1 w _

set_option maxRecDepth 100000 in
set_option maxHeartbeats 2000000 in
theorem pl0 (w : World) : Calls Tryz.prog 28 #[.nilIface] w fun e w' => e = .returned (.agg #[.int .i64 0, .int .i64 0, .int .u64 0, .string ⟨#[]⟩, .slice none 0 0]) ∧ Below w.heap.size w w' := by
  have a0 : ∀ w : World, (Instr.typeAssert .nilIface 20 95 true).run Tryz.prog w = .ok (.tuple #[.int .i64 0, .bool false]) w := fun w => assert_nil Tryz.underlying95 (by kernel_rfl)
  have a1 : ∀ w : World, (Instr.typeAssert .nilIface 20 96 true).run Tryz.prog w = .ok (.tuple #[.int .i64 0, .bool false]) w := fun w => assert_nil Tryz.underlying96 (by kernel_rfl)
  have a2 : ∀ w : World, (Instr.typeAssert .nilIface 20 97 true).run Tryz.prog w = .ok (.tuple #[.float .f64 0, .bool false]) w := fun w => assert_nil Tryz.underlying97 (by kernel_rfl)
  have a3 : ∀ w : World, (Instr.typeAssert .nilIface 20 98 true).run Tryz.prog w = .ok (.tuple #[.string ⟨#[]⟩, .bool false]) w := fun w => assert_nil Tryz.underlying98 (by kernel_rfl)
  have a4 : ∀ w : World, (Instr.typeAssert .nilIface 20 99 true).run Tryz.prog w = .ok (.tuple #[.string ⟨#[]⟩, .bool false]) w := fun w => assert_nil Tryz.underlying99 (by kernel_rfl)
  have a5 : ∀ w : World, (Instr.typeAssert .nilIface 20 100 true).run Tryz.prog w = .ok (.tuple #[.bool false, .bool false]) w := fun w => assert_nil Tryz.underlying100 (by kernel_rfl)
  have a6 : ∀ w : World, (Instr.typeAssert .nilIface 20 102 true).run Tryz.prog w = .ok (.tuple #[.slice none 0 0, .bool false]) w := fun w => assert_nil Tryz.underlying102 (by kernel_rfl)
  have a7 : ∀ w : World, (Instr.typeAssert .nilIface 20 104 true).run Tryz.prog w = .ok (.tuple #[.slice none 0 0, .bool false]) w := fun w => assert_nil Tryz.underlying104 (by kernel_rfl)
  have a8 : ∀ w : World, (Instr.typeAssert .nilIface 20 107 true).run Tryz.prog w = .ok (.tuple #[.agg #[.nilIface, .nilIface], .bool false]) w := fun w => assert_nil Tryz.underlying107 (by kernel_rfl)
  have a9 : ∀ w : World, (Instr.typeAssert .nilIface 20 109 true).run Tryz.prog w = .ok (.tuple #[.agg #[.int .i64 0, .string ⟨#[]⟩], .bool false]) w := fun w => assert_nil Tryz.underlying109 (by kernel_rfl)
  have a10 : ∀ w : World, (Instr.typeAssert .nilIface 20 110 true).run Tryz.prog w = .ok (.tuple #[.pointer none, .bool false]) w := fun w => assert_nil Tryz.underlying110 (by kernel_rfl)
  have a11 : ∀ w : World, (Instr.typeAssert .nilIface 20 113 true).run Tryz.prog w = .ok (.tuple #[.agg #[], .bool false]) w := fun w => assert_nil Tryz.underlying113 (by kernel_rfl)
  go_enter Tryz.func28, Tryz.ntmps28
  go_wp2
  refine bodyPost_ret (v := .agg #[.int .i64 0, .int .i64 0, .int .u64 0, .string ⟨#[]⟩, .slice none 0 0]) (by simp [results, Tryz.results28, go_sem]) rfl ⟨rfl, ?_⟩
  first | exact below1 w _ | exact below2 w _ _

set_option maxRecDepth 100000 in
set_option maxHeartbeats 2000000 in
theorem pl1 (i : Int) (w : World) : Calls Tryz.prog 28 #[.iface 95 (.int .i64 i)] w fun e w' => e = .returned (.agg #[.int .i64 1, .int .i64 i, .int .u64 0, .string ⟨#[]⟩, .slice none 0 0]) ∧ Below w.heap.size w w' := by
  have a0 : ∀ w : World, (Instr.typeAssert (.iface 95 (.int .i64 i)) 20 95 true).run Tryz.prog w = .ok (.tuple #[.int .i64 i, .bool true]) w := fun w => asto_yes (z := .int .i64 0) Tryz.underlying95 (fun m h => by cases h) (by kernel_rfl)
  go_enter Tryz.func28, Tryz.ntmps28
  go_wp2
  refine bodyPost_ret (v := .agg #[.int .i64 1, .int .i64 i, .int .u64 0, .string ⟨#[]⟩, .slice none 0 0]) (by simp [results, Tryz.results28, go_sem]) rfl ⟨rfl, ?_⟩
  first | exact below1 w _ | exact below2 w _ _

set_option maxRecDepth 100000 in
set_option maxHeartbeats 2000000 in
theorem pl2 (i : Int) (w : World) : Calls Tryz.prog 28 #[.iface 96 (.int .i64 i)] w fun e w' => e = .returned (.agg #[.int .i64 2, .int .i64 i, .int .u64 0, .string ⟨#[]⟩, .slice none 0 0]) ∧ Below w.heap.size w w' := by
  have a0 : ∀ w : World, (Instr.typeAssert (.iface 96 (.int .i64 i)) 20 95 true).run Tryz.prog w = .ok (.tuple #[.int .i64 0, .bool false]) w := fun w => asto_no (z := .int .i64 0) Tryz.underlying95 (fun m h => by cases h) (by kernel_rfl) (by decide)
  have a1 : ∀ w : World, (Instr.typeAssert (.iface 96 (.int .i64 i)) 20 96 true).run Tryz.prog w = .ok (.tuple #[.int .i64 i, .bool true]) w := fun w => asto_yes (z := .int .i64 0) Tryz.underlying96 (fun m h => by cases h) (by kernel_rfl)
  go_enter Tryz.func28, Tryz.ntmps28
  go_wp2
  refine bodyPost_ret (v := .agg #[.int .i64 2, .int .i64 i, .int .u64 0, .string ⟨#[]⟩, .slice none 0 0]) (by simp [results, Tryz.results28, go_sem]) rfl ⟨rfl, ?_⟩
  first | exact below1 w _ | exact below2 w _ _

set_option maxRecDepth 100000 in
set_option maxHeartbeats 2000000 in
theorem pl3 (n : Nat) (w : World) : Calls Tryz.prog 28 #[.iface 97 (.float .f64 n)] w fun e w' => e = .returned (.agg #[.int .i64 3, .int .i64 0, .int .u64 (n : Int), .string ⟨#[]⟩, .slice none 0 0]) ∧ Below w.heap.size w w' := by
  have a0 : ∀ w : World, (Instr.typeAssert (.iface 97 (.float .f64 n)) 20 95 true).run Tryz.prog w = .ok (.tuple #[.int .i64 0, .bool false]) w := fun w => asto_no (z := .int .i64 0) Tryz.underlying95 (fun m h => by cases h) (by kernel_rfl) (by decide)
  have a1 : ∀ w : World, (Instr.typeAssert (.iface 97 (.float .f64 n)) 20 96 true).run Tryz.prog w = .ok (.tuple #[.int .i64 0, .bool false]) w := fun w => asto_no (z := .int .i64 0) Tryz.underlying96 (fun m h => by cases h) (by kernel_rfl) (by decide)
  have a2 : ∀ w : World, (Instr.typeAssert (.iface 97 (.float .f64 n)) 20 97 true).run Tryz.prog w = .ok (.tuple #[.float .f64 n, .bool true]) w := fun w => asto_yes (z := .float .f64 0) Tryz.underlying97 (fun m h => by cases h) (by kernel_rfl)
  have hb := tobits n
  go_enter Tryz.func28, Tryz.ntmps28
  go_wp2
  refine bodyPost_ret (v := .agg #[.int .i64 3, .int .i64 0, .int .u64 (n : Int), .string ⟨#[]⟩, .slice none 0 0]) (by simp [results, Tryz.results28, go_sem]) rfl ⟨rfl, ?_⟩
  first | exact below1 w _ | exact below2 w _ _

set_option maxRecDepth 100000 in
set_option maxHeartbeats 2000000 in
theorem pl4 (s : ByteArray) (w : World) : Calls Tryz.prog 28 #[.iface 98 (.string s)] w fun e w' => e = .returned (.agg #[.int .i64 4, .int .i64 0, .int .u64 0, .string s, .slice none 0 0]) ∧ Below w.heap.size w w' := by
  have a0 : ∀ w : World, (Instr.typeAssert (.iface 98 (.string s)) 20 95 true).run Tryz.prog w = .ok (.tuple #[.int .i64 0, .bool false]) w := fun w => asto_no (z := .int .i64 0) Tryz.underlying95 (fun m h => by cases h) (by kernel_rfl) (by decide)
  have a1 : ∀ w : World, (Instr.typeAssert (.iface 98 (.string s)) 20 96 true).run Tryz.prog w = .ok (.tuple #[.int .i64 0, .bool false]) w := fun w => asto_no (z := .int .i64 0) Tryz.underlying96 (fun m h => by cases h) (by kernel_rfl) (by decide)
  have a2 : ∀ w : World, (Instr.typeAssert (.iface 98 (.string s)) 20 97 true).run Tryz.prog w = .ok (.tuple #[.float .f64 0, .bool false]) w := fun w => asto_no (z := .float .f64 0) Tryz.underlying97 (fun m h => by cases h) (by kernel_rfl) (by decide)
  have a3 : ∀ w : World, (Instr.typeAssert (.iface 98 (.string s)) 20 98 true).run Tryz.prog w = .ok (.tuple #[.string s, .bool true]) w := fun w => asto_yes (z := .string ⟨#[]⟩) Tryz.underlying98 (fun m h => by cases h) (by kernel_rfl)
  go_enter Tryz.func28, Tryz.ntmps28
  go_wp2
  refine bodyPost_ret (v := .agg #[.int .i64 4, .int .i64 0, .int .u64 0, .string s, .slice none 0 0]) (by simp [results, Tryz.results28, go_sem]) rfl ⟨rfl, ?_⟩
  first | exact below1 w _ | exact below2 w _ _

set_option maxRecDepth 100000 in
set_option maxHeartbeats 2000000 in
theorem pl5 (s : ByteArray) (w : World) : Calls Tryz.prog 28 #[.iface 99 (.string s)] w fun e w' => e = .returned (.agg #[.int .i64 5, .int .i64 0, .int .u64 0, .string s, .slice none 0 0]) ∧ Below w.heap.size w w' := by
  have a0 : ∀ w : World, (Instr.typeAssert (.iface 99 (.string s)) 20 95 true).run Tryz.prog w = .ok (.tuple #[.int .i64 0, .bool false]) w := fun w => asto_no (z := .int .i64 0) Tryz.underlying95 (fun m h => by cases h) (by kernel_rfl) (by decide)
  have a1 : ∀ w : World, (Instr.typeAssert (.iface 99 (.string s)) 20 96 true).run Tryz.prog w = .ok (.tuple #[.int .i64 0, .bool false]) w := fun w => asto_no (z := .int .i64 0) Tryz.underlying96 (fun m h => by cases h) (by kernel_rfl) (by decide)
  have a2 : ∀ w : World, (Instr.typeAssert (.iface 99 (.string s)) 20 97 true).run Tryz.prog w = .ok (.tuple #[.float .f64 0, .bool false]) w := fun w => asto_no (z := .float .f64 0) Tryz.underlying97 (fun m h => by cases h) (by kernel_rfl) (by decide)
  have a3 : ∀ w : World, (Instr.typeAssert (.iface 99 (.string s)) 20 98 true).run Tryz.prog w = .ok (.tuple #[.string ⟨#[]⟩, .bool false]) w := fun w => asto_no (z := .string ⟨#[]⟩) Tryz.underlying98 (fun m h => by cases h) (by kernel_rfl) (by decide)
  have a4 : ∀ w : World, (Instr.typeAssert (.iface 99 (.string s)) 20 99 true).run Tryz.prog w = .ok (.tuple #[.string s, .bool true]) w := fun w => asto_yes (z := .string ⟨#[]⟩) Tryz.underlying99 (fun m h => by cases h) (by kernel_rfl)
  go_enter Tryz.func28, Tryz.ntmps28
  go_wp2
  refine bodyPost_ret (v := .agg #[.int .i64 5, .int .i64 0, .int .u64 0, .string s, .slice none 0 0]) (by simp [results, Tryz.results28, go_sem]) rfl ⟨rfl, ?_⟩
  first | exact below1 w _ | exact below2 w _ _

set_option maxRecDepth 100000 in
set_option maxHeartbeats 2000000 in
theorem pl6 (b : Bool) (w : World) : Calls Tryz.prog 28 #[.iface 100 (.bool b)] w fun e w' => e = .returned (.agg #[.int .i64 6, .int .i64 (if b then 1 else 0), .int .u64 0, .string ⟨#[]⟩, .slice none 0 0]) ∧ Below w.heap.size w w' := by
  have a0 : ∀ w : World, (Instr.typeAssert (.iface 100 (.bool b)) 20 95 true).run Tryz.prog w = .ok (.tuple #[.int .i64 0, .bool false]) w := fun w => asto_no (z := .int .i64 0) Tryz.underlying95 (fun m h => by cases h) (by kernel_rfl) (by decide)
  have a1 : ∀ w : World, (Instr.typeAssert (.iface 100 (.bool b)) 20 96 true).run Tryz.prog w = .ok (.tuple #[.int .i64 0, .bool false]) w := fun w => asto_no (z := .int .i64 0) Tryz.underlying96 (fun m h => by cases h) (by kernel_rfl) (by decide)
  have a2 : ∀ w : World, (Instr.typeAssert (.iface 100 (.bool b)) 20 97 true).run Tryz.prog w = .ok (.tuple #[.float .f64 0, .bool false]) w := fun w => asto_no (z := .float .f64 0) Tryz.underlying97 (fun m h => by cases h) (by kernel_rfl) (by decide)
  have a3 : ∀ w : World, (Instr.typeAssert (.iface 100 (.bool b)) 20 98 true).run Tryz.prog w = .ok (.tuple #[.string ⟨#[]⟩, .bool false]) w := fun w => asto_no (z := .string ⟨#[]⟩) Tryz.underlying98 (fun m h => by cases h) (by kernel_rfl) (by decide)
  have a4 : ∀ w : World, (Instr.typeAssert (.iface 100 (.bool b)) 20 99 true).run Tryz.prog w = .ok (.tuple #[.string ⟨#[]⟩, .bool false]) w := fun w => asto_no (z := .string ⟨#[]⟩) Tryz.underlying99 (fun m h => by cases h) (by kernel_rfl) (by decide)
  have a5 : ∀ w : World, (Instr.typeAssert (.iface 100 (.bool b)) 20 100 true).run Tryz.prog w = .ok (.tuple #[.bool b, .bool true]) w := fun w => asto_yes (z := .bool false) Tryz.underlying100 (fun m h => by cases h) (by kernel_rfl)
  have HT := Lib.hid (plTruth b)
  generalize (if b = true then (1 : Int) else 0) = I at HT
  go_enter Tryz.func28, Tryz.ntmps28
  go_wp2_with fail
  refine (HT.out _).mono ?_
  rintro e w1 ⟨rfl, b1⟩
  have d1 := (D5.new w (.int .i64 0) (.int .i64 0) (.int .u64 0) (.string ⟨#[]⟩) (.slice none 0 0)).below b1
  obtain ⟨c0, c1, c2, c3, c4⟩ := d1.c
  have fz : ∀ o, w1.frozen? ⟨w.heap.size, o, none⟩ = false := fun o => d1.f
  have B := (below1 w _).trans (b1.mono (by simp))
  go_wp2
  refine bodyPost_ret (v := .agg #[.int .i64 6, .int .i64 I, .int .u64 0, .string ⟨#[]⟩, .slice none 0 0]) (by simp [results, Tryz.results28, go_sem, World.cell?_setCell_same, World.cell?_setCell_other, c0, c1, c2, c3, c4]) rfl ⟨rfl, ?_⟩
  exact ((((B.setCell (Nat.le_refl _) _).setCell (Nat.le_refl _) _).setCell (Nat.le_refl _) _).setCell (Nat.le_refl _) _).setCell (Nat.le_refl _) _

set_option maxRecDepth 100000 in
set_option maxHeartbeats 2000000 in
theorem pl10 (c : Int) (s : ByteArray) (w : World) : Calls Tryz.prog 28 #[.iface 109 (.agg #[.int .i64 c, .string s])] w fun e w' => e = .returned (.agg #[.int .i64 10, .int .i64 c, .int .u64 0, .string s, .slice none 0 0]) ∧ Below w.heap.size w w' := by
  have a0 : ∀ w : World, (Instr.typeAssert (.iface 109 (.agg #[.int .i64 c, .string s])) 20 95 true).run Tryz.prog w = .ok (.tuple #[.int .i64 0, .bool false]) w := fun w => asto_no (z := .int .i64 0) Tryz.underlying95 (fun m h => by cases h) (by kernel_rfl) (by decide)
  have a1 : ∀ w : World, (Instr.typeAssert (.iface 109 (.agg #[.int .i64 c, .string s])) 20 96 true).run Tryz.prog w = .ok (.tuple #[.int .i64 0, .bool false]) w := fun w => asto_no (z := .int .i64 0) Tryz.underlying96 (fun m h => by cases h) (by kernel_rfl) (by decide)
  have a2 : ∀ w : World, (Instr.typeAssert (.iface 109 (.agg #[.int .i64 c, .string s])) 20 97 true).run Tryz.prog w = .ok (.tuple #[.float .f64 0, .bool false]) w := fun w => asto_no (z := .float .f64 0) Tryz.underlying97 (fun m h => by cases h) (by kernel_rfl) (by decide)
  have a3 : ∀ w : World, (Instr.typeAssert (.iface 109 (.agg #[.int .i64 c, .string s])) 20 98 true).run Tryz.prog w = .ok (.tuple #[.string ⟨#[]⟩, .bool false]) w := fun w => asto_no (z := .string ⟨#[]⟩) Tryz.underlying98 (fun m h => by cases h) (by kernel_rfl) (by decide)
  have a4 : ∀ w : World, (Instr.typeAssert (.iface 109 (.agg #[.int .i64 c, .string s])) 20 99 true).run Tryz.prog w = .ok (.tuple #[.string ⟨#[]⟩, .bool false]) w := fun w => asto_no (z := .string ⟨#[]⟩) Tryz.underlying99 (fun m h => by cases h) (by kernel_rfl) (by decide)
  have a5 : ∀ w : World, (Instr.typeAssert (.iface 109 (.agg #[.int .i64 c, .string s])) 20 100 true).run Tryz.prog w = .ok (.tuple #[.bool false, .bool false]) w := fun w => asto_no (z := .bool false) Tryz.underlying100 (fun m h => by cases h) (by kernel_rfl) (by decide)
  have a6 : ∀ w : World, (Instr.typeAssert (.iface 109 (.agg #[.int .i64 c, .string s])) 20 102 true).run Tryz.prog w = .ok (.tuple #[.slice none 0 0, .bool false]) w := fun w => asto_no (z := .slice none 0 0) Tryz.underlying102 (fun m h => by cases h) (by kernel_rfl) (by decide)
  have a7 : ∀ w : World, (Instr.typeAssert (.iface 109 (.agg #[.int .i64 c, .string s])) 20 104 true).run Tryz.prog w = .ok (.tuple #[.slice none 0 0, .bool false]) w := fun w => asto_no (z := .slice none 0 0) Tryz.underlying104 (fun m h => by cases h) (by kernel_rfl) (by decide)
  have a8 : ∀ w : World, (Instr.typeAssert (.iface 109 (.agg #[.int .i64 c, .string s])) 20 107 true).run Tryz.prog w = .ok (.tuple #[.agg #[.nilIface, .nilIface], .bool false]) w := fun w => asto_no (z := .agg #[.nilIface, .nilIface]) Tryz.underlying107 (fun m h => by cases h) (by kernel_rfl) (by decide)
  have a9 : ∀ w : World, (Instr.typeAssert (.iface 109 (.agg #[.int .i64 c, .string s])) 20 109 true).run Tryz.prog w = .ok (.tuple #[.agg #[.int .i64 c, .string s], .bool true]) w := fun w => asto_yes (z := .agg #[.int .i64 0, .string ⟨#[]⟩]) Tryz.underlying109 (fun m h => by cases h) (by kernel_rfl)
  go_enter Tryz.func28, Tryz.ntmps28
  go_wp2
  refine bodyPost_ret (v := .agg #[.int .i64 10, .int .i64 c, .int .u64 0, .string s, .slice none 0 0]) (by simp [results, Tryz.results28, go_sem]) rfl ⟨rfl, ?_⟩
  first | exact below1 w _ | exact below2 w _ _

set_option maxRecDepth 100000 in
set_option maxHeartbeats 2000000 in
theorem pl13 (w : World) : Calls Tryz.prog 28 #[.iface 113 (.agg #[])] w fun e w' => e = .returned (.agg #[.int .i64 13, .int .i64 0, .int .u64 0, .string ⟨#[]⟩, .slice none 0 0]) ∧ Below w.heap.size w w' := by
  have a0 : ∀ w : World, (Instr.typeAssert (.iface 113 (.agg #[])) 20 95 true).run Tryz.prog w = .ok (.tuple #[.int .i64 0, .bool false]) w := fun w => asto_no (z := .int .i64 0) Tryz.underlying95 (fun m h => by cases h) (by kernel_rfl) (by decide)
  have a1 : ∀ w : World, (Instr.typeAssert (.iface 113 (.agg #[])) 20 96 true).run Tryz.prog w = .ok (.tuple #[.int .i64 0, .bool false]) w := fun w => asto_no (z := .int .i64 0) Tryz.underlying96 (fun m h => by cases h) (by kernel_rfl) (by decide)
  have a2 : ∀ w : World, (Instr.typeAssert (.iface 113 (.agg #[])) 20 97 true).run Tryz.prog w = .ok (.tuple #[.float .f64 0, .bool false]) w := fun w => asto_no (z := .float .f64 0) Tryz.underlying97 (fun m h => by cases h) (by kernel_rfl) (by decide)
  have a3 : ∀ w : World, (Instr.typeAssert (.iface 113 (.agg #[])) 20 98 true).run Tryz.prog w = .ok (.tuple #[.string ⟨#[]⟩, .bool false]) w := fun w => asto_no (z := .string ⟨#[]⟩) Tryz.underlying98 (fun m h => by cases h) (by kernel_rfl) (by decide)
  have a4 : ∀ w : World, (Instr.typeAssert (.iface 113 (.agg #[])) 20 99 true).run Tryz.prog w = .ok (.tuple #[.string ⟨#[]⟩, .bool false]) w := fun w => asto_no (z := .string ⟨#[]⟩) Tryz.underlying99 (fun m h => by cases h) (by kernel_rfl) (by decide)
  have a5 : ∀ w : World, (Instr.typeAssert (.iface 113 (.agg #[])) 20 100 true).run Tryz.prog w = .ok (.tuple #[.bool false, .bool false]) w := fun w => asto_no (z := .bool false) Tryz.underlying100 (fun m h => by cases h) (by kernel_rfl) (by decide)
  have a6 : ∀ w : World, (Instr.typeAssert (.iface 113 (.agg #[])) 20 102 true).run Tryz.prog w = .ok (.tuple #[.slice none 0 0, .bool false]) w := fun w => asto_no (z := .slice none 0 0) Tryz.underlying102 (fun m h => by cases h) (by kernel_rfl) (by decide)
  have a7 : ∀ w : World, (Instr.typeAssert (.iface 113 (.agg #[])) 20 104 true).run Tryz.prog w = .ok (.tuple #[.slice none 0 0, .bool false]) w := fun w => asto_no (z := .slice none 0 0) Tryz.underlying104 (fun m h => by cases h) (by kernel_rfl) (by decide)
  have a8 : ∀ w : World, (Instr.typeAssert (.iface 113 (.agg #[])) 20 107 true).run Tryz.prog w = .ok (.tuple #[.agg #[.nilIface, .nilIface], .bool false]) w := fun w => asto_no (z := .agg #[.nilIface, .nilIface]) Tryz.underlying107 (fun m h => by cases h) (by kernel_rfl) (by decide)
  have a9 : ∀ w : World, (Instr.typeAssert (.iface 113 (.agg #[])) 20 109 true).run Tryz.prog w = .ok (.tuple #[.agg #[.int .i64 0, .string ⟨#[]⟩], .bool false]) w := fun w => asto_no (z := .agg #[.int .i64 0, .string ⟨#[]⟩]) Tryz.underlying109 (fun m h => by cases h) (by kernel_rfl) (by decide)
  have a10 : ∀ w : World, (Instr.typeAssert (.iface 113 (.agg #[])) 20 110 true).run Tryz.prog w = .ok (.tuple #[.pointer none, .bool false]) w := fun w => asto_no (z := .pointer none) Tryz.underlying110 (fun m h => by cases h) (by kernel_rfl) (by decide)
  have a11 : ∀ w : World, (Instr.typeAssert (.iface 113 (.agg #[])) 20 113 true).run Tryz.prog w = .ok (.tuple #[.agg #[], .bool true]) w := fun w => asto_yes (z := .agg #[]) Tryz.underlying113 (fun m h => by cases h) (by kernel_rfl)
  go_enter Tryz.func28, Tryz.ntmps28
  go_wp2
  refine bodyPost_ret (v := .agg #[.int .i64 13, .int .i64 0, .int .u64 0, .string ⟨#[]⟩, .slice none 0 0]) (by simp [results, Tryz.results28, go_sem]) rfl ⟨rfl, ?_⟩
  first | exact below1 w _ | exact below2 w _ _
end Go.Proofs.YtlmebokbbhjbmaaGreatDoor.Dt
