/- The package's Length and the document's, of a value's tree: one answer; the conditions: the tree in memory, valid. -/
import Derived.Test.YthamafijjflfbaaGreatMae
import Derived.Test.YthamafijjflfbaaGreatMag
import Derived.Test.YthamafijjflfbaaGreatMac
namespace Go.Proofs.YthamafijjflfbaaGreat.Dt
open Go.RowKit
/-- What Length answers: by the kind, the text's length, the list's. -/
def lenP (k : Int) (s l : Nat) : Int × Int := if k = 4 ∨ k = 5 ∨ k = 7 then (s, 0) else if k = 8 then (l, 0) else if k = 9 then (2, 0) else if k = 11 then (1, 0) else if k = 12 then (0, 0) else (0, 12)
set_option maxRecDepth 100000 in
set_option maxHeartbeats 1000000 in
theorem refLen (k i u : Int) (s : ByteArray) (ad : Option Addr) (len cap : Nat) (w : World) :
    Calls Tryz.prog 30 #[.agg #[.int .i64 k, .int .i64 i, .int .u64 u, .string s, .slice ad len cap]] w fun e w' => e = .returned (.tuple #[.int .i64 (lenP k s.size len).1, .int .i64 (lenP k s.size len).2]) ∧ Below w.heap.size w w' := by
  have hR : ∀ A, lenP k s.size len = A → (Calls Tryz.prog 30 #[.agg #[.int .i64 k, .int .i64 i, .int .u64 u, .string s, .slice ad len cap]] w fun e w' => e = .returned (.tuple #[.int .i64 A.1, .int .i64 A.2]) ∧ Below w.heap.size w w') → (Calls Tryz.prog 30 #[.agg #[.int .i64 k, .int .i64 i, .int .u64 u, .string s, .slice ad len cap]] w fun e w' => e = .returned (.tuple #[.int .i64 (lenP k s.size len).1, .int .i64 (lenP k s.size len).2]) ∧ Below w.heap.size w w') := fun A hA h => by rw [hA]; exact h
  by_cases h4 : k = 4
  · subst h4
    refine hR ((s.size : Int), 0) (by simp [lenP]) ?_
    clear hR
    go_enter Tryz.func30, Tryz.ntmps30
    go_wp2
    go_ret2
    exact ⟨rfl, below1 _ _⟩
  by_cases h5 : k = 5
  · subst h5
    refine hR ((s.size : Int), 0) (by simp [lenP]) ?_
    clear hR
    go_enter Tryz.func30, Tryz.ntmps30
    go_wp2
    go_ret2
    exact ⟨rfl, below1 _ _⟩
  by_cases h7 : k = 7
  · subst h7
    refine hR ((s.size : Int), 0) (by simp [lenP]) ?_
    clear hR
    go_enter Tryz.func30, Tryz.ntmps30
    go_wp2
    go_ret2
    exact ⟨rfl, below1 _ _⟩
  by_cases h8 : k = 8
  · subst h8
    refine hR ((len : Int), 0) (by simp [lenP]) ?_
    clear hR
    go_enter Tryz.func30, Tryz.ntmps30
    go_wp2
    go_ret2
    exact ⟨rfl, below1 _ _⟩
  by_cases h9 : k = 9
  · subst h9
    refine hR (2, 0) (by simp [lenP]) ?_
    clear hR
    go_enter Tryz.func30, Tryz.ntmps30
    go_wp2
    go_ret2
    exact ⟨rfl, below1 _ _⟩
  by_cases h11 : k = 11
  · subst h11
    refine hR (1, 0) (by simp [lenP]) ?_
    clear hR
    go_enter Tryz.func30, Tryz.ntmps30
    go_wp2
    go_ret2
    exact ⟨rfl, below1 _ _⟩
  by_cases h12 : k = 12
  · subst h12
    refine hR (0, 0) (by simp [lenP]) ?_
    clear hR
    go_enter Tryz.func30, Tryz.ntmps30
    go_wp2
    go_ret2
    exact ⟨rfl, below1 _ _⟩
  · refine hR (0, 12) (by simp [lenP, *]) ?_
    clear hR
    go_enter Tryz.func30, Tryz.ntmps30
    go_wp2
    go_ret2
    exact ⟨rfl, below1 _ _⟩
theorem sizeText (s : ByteArray) (w : World) : Calls Tryz.prog 112 #[.string s] w fun e w' => e = .returned (.int .i64 ((s.size : Int))) ∧ w' = w := by
  go_enter Tryz.func112, Tryz.ntmps112
  go_wp2
  go_ret
  exact ⟨rfl, rfl⟩
theorem sizeName (s : ByteArray) (w : World) : Calls Tryz.prog 114 #[.string s] w fun e w' => e = .returned (.int .i64 ((s.size : Int))) ∧ w' = w := by
  go_enter Tryz.func114, Tryz.ntmps114
  go_wp2
  go_ret
  exact ⟨rfl, rfl⟩
theorem sizeOct (a : Option Addr) (n c : Nat) (w : World) : Calls Tryz.prog 115 #[.slice a n c] w fun e w' => e = .returned (.int .i64 ((n : Int))) ∧ w' = w := by
  go_enter Tryz.func115, Tryz.ntmps115
  go_wp2
  go_ret
  exact ⟨rfl, rfl⟩
theorem sizeRow (a : Option Addr) (n c : Nat) (w : World) : Calls Tryz.prog 116 #[.slice a n c] w fun e w' => e = .returned (.int .i64 ((n : Int))) ∧ w' = w := by
  go_enter Tryz.func116, Tryz.ntmps116
  go_wp2
  go_ret
  exact ⟨rfl, rfl⟩
theorem sizeBox (p : Addr) (w : World) : Calls Tryz.prog 120 #[.pointer (some p)] w fun e w' => e = .returned (.int .i64 (1)) ∧ w' = w := by
  go_enter Tryz.func120, Tryz.ntmps120
  go_wp2
  go_ret
  exact ⟨rfl, rfl⟩
theorem sizeNob  (w : World) : Calls Tryz.prog 120 #[.pointer none] w fun e w' => e = .returned (.int .i64 (0)) ∧ w' = w := by
  go_enter Tryz.func120, Tryz.ntmps120
  go_wp2
  go_ret
  exact ⟨rfl, rfl⟩
theorem sizePair (x y : Value) (hx : Sx x) (hy : Sx y) (w : World) : Calls Tryz.prog 117 #[.agg #[x, y]] w fun e w' => e = .returned (.int .i64 2) ∧ Below w.heap.size w w' := by
  rcases hx with rfl | ⟨T, z, rfl⟩ <;> rcases hy with rfl | ⟨T', z', rfl⟩
  all_goals
    go_enter Tryz.func117, Tryz.ntmps117
    go_wp2
    go_ret
    first | exact ⟨rfl, Below.refl _ _⟩ | exact ⟨rfl, below1 _ _⟩
end Go.Proofs.YthamafijjflfbaaGreat.Dt
/- The package's Length of a value's tree: what the document's answers; the conditions: the tree in memory, valid. -/
namespace Go.Proofs.YthamafijjflfbaaGreat.Dt
open Go.RowKit
/-- What stands for a tree, by its kind. -/
theorem vr_cases {F : Nat → Prop} {w : World} {n : Nat} {v : Value} {t : Tr (n + 1)} (h : VR F w (n + 1) v t) :
    (t.kd = 0 ∧ v = .nilIface) ∨ (t.kd = 1 ∧ v = .iface 113 (.int .i64 t.it)) ∨ (t.kd = 2 ∧ v = .iface 128 (.int .i64 t.it)) ∨ (t.kd = 3 ∧ v = .iface 129 (.float .f64 t.ut.toNat)) ∨
    (t.kd = 4 ∧ v = .iface 131 (.string t.tx)) ∨ (t.kd = 5 ∧ v = .iface 132 (.string t.tx)) ∨ (t.kd = 6 ∧ v = .iface 110 (.bool (t.it != 0))) ∨
    (t.kd = 7 ∧ ∃ a c, v = .iface 135 (.slice a t.tx.size c)) ∨ (t.kd = 8 ∧ ∃ a c, v = .iface 137 (.slice a t.ks.length c)) ∨
    (t.kd = 9 ∧ ∃ x y, v = .iface 140 (.agg #[x, y]) ∧ Sx x ∧ Sx y) ∨ (t.kd = 10 ∧ v = .iface 75 (.agg #[.int .i64 t.it, .string t.tx])) ∨
    (t.kd = 11 ∧ ∃ b u, v = .iface 141 (.pointer (some ⟨b, 0, none⟩)) ∧ w.heap[b]? = some (.cells #[.int .i64 t.it, u] 177 (0, 0)) ∧ Sx u) ∨ (t.kd = 12 ∧ v = .iface 141 (.pointer none)) ∨ (t.kd = 13 ∧ v = .iface 143 (.agg #[])) := by
  simp only [VR] at h
  rcases h with q | q | q | q | q | q | q | ⟨k, g, c, cs, fr, e1, e2, e3, e4⟩ | ⟨k, a, c, e1, e2⟩ | ⟨k, x, y, t0, t1, e1, e2, e3, e4⟩ | q | ⟨k, b, u, t0, e1, e2, e3, e4, e5⟩ | q | q
  · exact .inl q
  · exact .inr (.inl q)
  · exact .inr (.inr (.inl q))
  · exact .inr (.inr (.inr (.inl q)))
  · exact .inr (.inr (.inr (.inr (.inl q))))
  · exact .inr (.inr (.inr (.inr (.inr (.inl q)))))
  · exact .inr (.inr (.inr (.inr (.inr (.inr (.inl q))))))
  · exact .inr (.inr (.inr (.inr (.inr (.inr (.inr (.inl ⟨k, _, c, e1⟩)))))))
  · exact .inr (.inr (.inr (.inr (.inr (.inr (.inr (.inr (.inl ⟨k, a, c, e1⟩))))))))
  · exact .inr (.inr (.inr (.inr (.inr (.inr (.inr (.inr (.inr (.inl ⟨k, x, y, e1, vr_any e3, vr_any e4⟩)))))))))
  · exact .inr (.inr (.inr (.inr (.inr (.inr (.inr (.inr (.inr (.inr (.inl q))))))))))
  · exact .inr (.inr (.inr (.inr (.inr (.inr (.inr (.inr (.inr (.inr (.inr (.inl ⟨k, b, u, e1, e4, vr_any e5⟩)))))))))))
  · exact .inr (.inr (.inr (.inr (.inr (.inr (.inr (.inr (.inr (.inr (.inr (.inr (.inl q))))))))))))
  · exact .inr (.inr (.inr (.inr (.inr (.inr (.inr (.inr (.inr (.inr (.inr (.inr (.inr q))))))))))))
end Go.Proofs.YthamafijjflfbaaGreat.Dt
/- The package's Plain of values without parts: the plain data; no condition. -/
namespace Go.Proofs.YthamafijjflfbaaGreat.Dt
open Go.RowKit
/-- The bits of a tree are within 64. -/
def r64 : (n : Nat) → Tr n → Prop
  | 0, _ => False
  | n + 1, t => (0 ≤ t.ut ∧ t.ut < 18446744073709551616) ∧ ∀ s ∈ t.ks, r64 n s
theorem asto_yes {P : Program} {t x : TypeId} {d : TypeDesc} {v z : Value} {w : World} (hU : P.underlying t = some d) (hd : ∀ m, d ≠ .interface m) (hz : (zeroValue t).run P w = .ok z w) : (Instr.typeAssert (.iface t v) x t true).run P w = .ok (.tuple #[v, .bool true]) w := by
  have := assert_to (t := t) (x := x) (v := v) hU hd hz
  simpa using this
theorem asto_no {P : Program} {t x asserted : TypeId} {d : TypeDesc} {v z : Value} {w : World} (hU : P.underlying asserted = some d) (hd : ∀ m, d ≠ .interface m) (hz : (zeroValue asserted).run P w = .ok z w) (hne : t ≠ asserted) : (Instr.typeAssert (.iface t v) x asserted true).run P w = .ok (.tuple #[z, .bool false]) w := by
  have := assert_to (t := t) (x := x) (v := v) hU hd hz
  simpa [hne] using this
theorem tobits (n : Nat) (w : World) : (callFunc 76 #[.float .f64 n]).run Tryz.prog w = .ok (.value (.int .u64 (n : Int))) w := by kernel_rfl

set_option maxRecDepth 100000 in
theorem plTruth (b : Bool) (w : World) : Calls Tryz.prog 77 #[.bool b] w fun e w' => e = .returned (.agg #[.int .i64 6, .int .i64 (if b then 1 else 0), .int .u64 0, .string ⟨#[]⟩, .slice none 0 0]) ∧ Below w.heap.size w w' := by
  cases b
  all_goals
    go_enter Tryz.func77, Tryz.ntmps77
    go_wp2
    refine bodyPost_ret (v := .agg #[.int .i64 6, .int .i64 _, .int .u64 0, .string ⟨#[]⟩, .slice none 0 0]) (by simp [results, Tryz.results77, go_sem]) rfl ⟨rfl, ?_⟩
    exact below1 w _

set_option maxRecDepth 100000 in
set_option maxHeartbeats 2000000 in
theorem pl0 (w : World) : Calls Tryz.prog 59 #[.nilIface] w fun e w' => e = .returned (.agg #[.int .i64 0, .int .i64 0, .int .u64 0, .string ⟨#[]⟩, .slice none 0 0]) ∧ Below w.heap.size w w' := by
  have a0 : ∀ w : World, (Instr.typeAssert .nilIface 20 113 true).run Tryz.prog w = .ok (.tuple #[.int .i64 0, .bool false]) w := fun w => assert_nil Tryz.underlying113 (by kernel_rfl)
  have a1 : ∀ w : World, (Instr.typeAssert .nilIface 20 128 true).run Tryz.prog w = .ok (.tuple #[.int .i64 0, .bool false]) w := fun w => assert_nil Tryz.underlying128 (by kernel_rfl)
  have a2 : ∀ w : World, (Instr.typeAssert .nilIface 20 129 true).run Tryz.prog w = .ok (.tuple #[.float .f64 0, .bool false]) w := fun w => assert_nil Tryz.underlying129 (by kernel_rfl)
  have a3 : ∀ w : World, (Instr.typeAssert .nilIface 20 131 true).run Tryz.prog w = .ok (.tuple #[.string ⟨#[]⟩, .bool false]) w := fun w => assert_nil Tryz.underlying131 (by kernel_rfl)
  have a4 : ∀ w : World, (Instr.typeAssert .nilIface 20 132 true).run Tryz.prog w = .ok (.tuple #[.string ⟨#[]⟩, .bool false]) w := fun w => assert_nil Tryz.underlying132 (by kernel_rfl)
  have a5 : ∀ w : World, (Instr.typeAssert .nilIface 20 110 true).run Tryz.prog w = .ok (.tuple #[.bool false, .bool false]) w := fun w => assert_nil Tryz.underlying110 (by kernel_rfl)
  have a6 : ∀ w : World, (Instr.typeAssert .nilIface 20 135 true).run Tryz.prog w = .ok (.tuple #[.slice none 0 0, .bool false]) w := fun w => assert_nil Tryz.underlying135 (by kernel_rfl)
  have a7 : ∀ w : World, (Instr.typeAssert .nilIface 20 137 true).run Tryz.prog w = .ok (.tuple #[.slice none 0 0, .bool false]) w := fun w => assert_nil Tryz.underlying137 (by kernel_rfl)
  have a8 : ∀ w : World, (Instr.typeAssert .nilIface 20 140 true).run Tryz.prog w = .ok (.tuple #[.agg #[.nilIface, .nilIface], .bool false]) w := fun w => assert_nil Tryz.underlying140 (by kernel_rfl)
  have a9 : ∀ w : World, (Instr.typeAssert .nilIface 20 75 true).run Tryz.prog w = .ok (.tuple #[.agg #[.int .i64 0, .string ⟨#[]⟩], .bool false]) w := fun w => assert_nil Tryz.underlying75 (by kernel_rfl)
  have a10 : ∀ w : World, (Instr.typeAssert .nilIface 20 141 true).run Tryz.prog w = .ok (.tuple #[.pointer none, .bool false]) w := fun w => assert_nil Tryz.underlying141 (by kernel_rfl)
  have a11 : ∀ w : World, (Instr.typeAssert .nilIface 20 143 true).run Tryz.prog w = .ok (.tuple #[.agg #[], .bool false]) w := fun w => assert_nil Tryz.underlying143 (by kernel_rfl)
  go_enter Tryz.func59, Tryz.ntmps59
  go_wp2
  refine bodyPost_ret (v := .agg #[.int .i64 0, .int .i64 0, .int .u64 0, .string ⟨#[]⟩, .slice none 0 0]) (by simp [results, Tryz.results59, go_sem]) rfl ⟨rfl, ?_⟩
  first | exact below1 w _ | exact below2 w _ _

set_option maxRecDepth 100000 in
set_option maxHeartbeats 2000000 in
theorem pl1 (i : Int) (w : World) : Calls Tryz.prog 59 #[.iface 113 (.int .i64 i)] w fun e w' => e = .returned (.agg #[.int .i64 1, .int .i64 i, .int .u64 0, .string ⟨#[]⟩, .slice none 0 0]) ∧ Below w.heap.size w w' := by
  have a0 : ∀ w : World, (Instr.typeAssert (.iface 113 (.int .i64 i)) 20 113 true).run Tryz.prog w = .ok (.tuple #[.int .i64 i, .bool true]) w := fun w => asto_yes (z := .int .i64 0) Tryz.underlying113 (fun m h => by cases h) (by kernel_rfl)
  go_enter Tryz.func59, Tryz.ntmps59
  go_wp2
  refine bodyPost_ret (v := .agg #[.int .i64 1, .int .i64 i, .int .u64 0, .string ⟨#[]⟩, .slice none 0 0]) (by simp [results, Tryz.results59, go_sem]) rfl ⟨rfl, ?_⟩
  first | exact below1 w _ | exact below2 w _ _

set_option maxRecDepth 100000 in
set_option maxHeartbeats 2000000 in
theorem pl2 (i : Int) (w : World) : Calls Tryz.prog 59 #[.iface 128 (.int .i64 i)] w fun e w' => e = .returned (.agg #[.int .i64 2, .int .i64 i, .int .u64 0, .string ⟨#[]⟩, .slice none 0 0]) ∧ Below w.heap.size w w' := by
  have a0 : ∀ w : World, (Instr.typeAssert (.iface 128 (.int .i64 i)) 20 113 true).run Tryz.prog w = .ok (.tuple #[.int .i64 0, .bool false]) w := fun w => asto_no (z := .int .i64 0) Tryz.underlying113 (fun m h => by cases h) (by kernel_rfl) (by decide)
  have a1 : ∀ w : World, (Instr.typeAssert (.iface 128 (.int .i64 i)) 20 128 true).run Tryz.prog w = .ok (.tuple #[.int .i64 i, .bool true]) w := fun w => asto_yes (z := .int .i64 0) Tryz.underlying128 (fun m h => by cases h) (by kernel_rfl)
  go_enter Tryz.func59, Tryz.ntmps59
  go_wp2
  refine bodyPost_ret (v := .agg #[.int .i64 2, .int .i64 i, .int .u64 0, .string ⟨#[]⟩, .slice none 0 0]) (by simp [results, Tryz.results59, go_sem]) rfl ⟨rfl, ?_⟩
  first | exact below1 w _ | exact below2 w _ _

set_option maxRecDepth 100000 in
set_option maxHeartbeats 2000000 in
theorem pl3 (n : Nat) (w : World) : Calls Tryz.prog 59 #[.iface 129 (.float .f64 n)] w fun e w' => e = .returned (.agg #[.int .i64 3, .int .i64 0, .int .u64 (n : Int), .string ⟨#[]⟩, .slice none 0 0]) ∧ Below w.heap.size w w' := by
  have a0 : ∀ w : World, (Instr.typeAssert (.iface 129 (.float .f64 n)) 20 113 true).run Tryz.prog w = .ok (.tuple #[.int .i64 0, .bool false]) w := fun w => asto_no (z := .int .i64 0) Tryz.underlying113 (fun m h => by cases h) (by kernel_rfl) (by decide)
  have a1 : ∀ w : World, (Instr.typeAssert (.iface 129 (.float .f64 n)) 20 128 true).run Tryz.prog w = .ok (.tuple #[.int .i64 0, .bool false]) w := fun w => asto_no (z := .int .i64 0) Tryz.underlying128 (fun m h => by cases h) (by kernel_rfl) (by decide)
  have a2 : ∀ w : World, (Instr.typeAssert (.iface 129 (.float .f64 n)) 20 129 true).run Tryz.prog w = .ok (.tuple #[.float .f64 n, .bool true]) w := fun w => asto_yes (z := .float .f64 0) Tryz.underlying129 (fun m h => by cases h) (by kernel_rfl)
  have hb := tobits n
  go_enter Tryz.func59, Tryz.ntmps59
  go_wp2
  refine bodyPost_ret (v := .agg #[.int .i64 3, .int .i64 0, .int .u64 (n : Int), .string ⟨#[]⟩, .slice none 0 0]) (by simp [results, Tryz.results59, go_sem]) rfl ⟨rfl, ?_⟩
  first | exact below1 w _ | exact below2 w _ _

set_option maxRecDepth 100000 in
set_option maxHeartbeats 2000000 in
theorem pl4 (s : ByteArray) (w : World) : Calls Tryz.prog 59 #[.iface 131 (.string s)] w fun e w' => e = .returned (.agg #[.int .i64 4, .int .i64 0, .int .u64 0, .string s, .slice none 0 0]) ∧ Below w.heap.size w w' := by
  have a0 : ∀ w : World, (Instr.typeAssert (.iface 131 (.string s)) 20 113 true).run Tryz.prog w = .ok (.tuple #[.int .i64 0, .bool false]) w := fun w => asto_no (z := .int .i64 0) Tryz.underlying113 (fun m h => by cases h) (by kernel_rfl) (by decide)
  have a1 : ∀ w : World, (Instr.typeAssert (.iface 131 (.string s)) 20 128 true).run Tryz.prog w = .ok (.tuple #[.int .i64 0, .bool false]) w := fun w => asto_no (z := .int .i64 0) Tryz.underlying128 (fun m h => by cases h) (by kernel_rfl) (by decide)
  have a2 : ∀ w : World, (Instr.typeAssert (.iface 131 (.string s)) 20 129 true).run Tryz.prog w = .ok (.tuple #[.float .f64 0, .bool false]) w := fun w => asto_no (z := .float .f64 0) Tryz.underlying129 (fun m h => by cases h) (by kernel_rfl) (by decide)
  have a3 : ∀ w : World, (Instr.typeAssert (.iface 131 (.string s)) 20 131 true).run Tryz.prog w = .ok (.tuple #[.string s, .bool true]) w := fun w => asto_yes (z := .string ⟨#[]⟩) Tryz.underlying131 (fun m h => by cases h) (by kernel_rfl)
  go_enter Tryz.func59, Tryz.ntmps59
  go_wp2
  refine bodyPost_ret (v := .agg #[.int .i64 4, .int .i64 0, .int .u64 0, .string s, .slice none 0 0]) (by simp [results, Tryz.results59, go_sem]) rfl ⟨rfl, ?_⟩
  first | exact below1 w _ | exact below2 w _ _

set_option maxRecDepth 100000 in
set_option maxHeartbeats 2000000 in
theorem pl5 (s : ByteArray) (w : World) : Calls Tryz.prog 59 #[.iface 132 (.string s)] w fun e w' => e = .returned (.agg #[.int .i64 5, .int .i64 0, .int .u64 0, .string s, .slice none 0 0]) ∧ Below w.heap.size w w' := by
  have a0 : ∀ w : World, (Instr.typeAssert (.iface 132 (.string s)) 20 113 true).run Tryz.prog w = .ok (.tuple #[.int .i64 0, .bool false]) w := fun w => asto_no (z := .int .i64 0) Tryz.underlying113 (fun m h => by cases h) (by kernel_rfl) (by decide)
  have a1 : ∀ w : World, (Instr.typeAssert (.iface 132 (.string s)) 20 128 true).run Tryz.prog w = .ok (.tuple #[.int .i64 0, .bool false]) w := fun w => asto_no (z := .int .i64 0) Tryz.underlying128 (fun m h => by cases h) (by kernel_rfl) (by decide)
  have a2 : ∀ w : World, (Instr.typeAssert (.iface 132 (.string s)) 20 129 true).run Tryz.prog w = .ok (.tuple #[.float .f64 0, .bool false]) w := fun w => asto_no (z := .float .f64 0) Tryz.underlying129 (fun m h => by cases h) (by kernel_rfl) (by decide)
  have a3 : ∀ w : World, (Instr.typeAssert (.iface 132 (.string s)) 20 131 true).run Tryz.prog w = .ok (.tuple #[.string ⟨#[]⟩, .bool false]) w := fun w => asto_no (z := .string ⟨#[]⟩) Tryz.underlying131 (fun m h => by cases h) (by kernel_rfl) (by decide)
  have a4 : ∀ w : World, (Instr.typeAssert (.iface 132 (.string s)) 20 132 true).run Tryz.prog w = .ok (.tuple #[.string s, .bool true]) w := fun w => asto_yes (z := .string ⟨#[]⟩) Tryz.underlying132 (fun m h => by cases h) (by kernel_rfl)
  go_enter Tryz.func59, Tryz.ntmps59
  go_wp2
  refine bodyPost_ret (v := .agg #[.int .i64 5, .int .i64 0, .int .u64 0, .string s, .slice none 0 0]) (by simp [results, Tryz.results59, go_sem]) rfl ⟨rfl, ?_⟩
  first | exact below1 w _ | exact below2 w _ _

set_option maxRecDepth 100000 in
set_option maxHeartbeats 2000000 in
theorem pl6 (b : Bool) (w : World) : Calls Tryz.prog 59 #[.iface 110 (.bool b)] w fun e w' => e = .returned (.agg #[.int .i64 6, .int .i64 (if b then 1 else 0), .int .u64 0, .string ⟨#[]⟩, .slice none 0 0]) ∧ Below w.heap.size w w' := by
  have a0 : ∀ w : World, (Instr.typeAssert (.iface 110 (.bool b)) 20 113 true).run Tryz.prog w = .ok (.tuple #[.int .i64 0, .bool false]) w := fun w => asto_no (z := .int .i64 0) Tryz.underlying113 (fun m h => by cases h) (by kernel_rfl) (by decide)
  have a1 : ∀ w : World, (Instr.typeAssert (.iface 110 (.bool b)) 20 128 true).run Tryz.prog w = .ok (.tuple #[.int .i64 0, .bool false]) w := fun w => asto_no (z := .int .i64 0) Tryz.underlying128 (fun m h => by cases h) (by kernel_rfl) (by decide)
  have a2 : ∀ w : World, (Instr.typeAssert (.iface 110 (.bool b)) 20 129 true).run Tryz.prog w = .ok (.tuple #[.float .f64 0, .bool false]) w := fun w => asto_no (z := .float .f64 0) Tryz.underlying129 (fun m h => by cases h) (by kernel_rfl) (by decide)
  have a3 : ∀ w : World, (Instr.typeAssert (.iface 110 (.bool b)) 20 131 true).run Tryz.prog w = .ok (.tuple #[.string ⟨#[]⟩, .bool false]) w := fun w => asto_no (z := .string ⟨#[]⟩) Tryz.underlying131 (fun m h => by cases h) (by kernel_rfl) (by decide)
  have a4 : ∀ w : World, (Instr.typeAssert (.iface 110 (.bool b)) 20 132 true).run Tryz.prog w = .ok (.tuple #[.string ⟨#[]⟩, .bool false]) w := fun w => asto_no (z := .string ⟨#[]⟩) Tryz.underlying132 (fun m h => by cases h) (by kernel_rfl) (by decide)
  have a5 : ∀ w : World, (Instr.typeAssert (.iface 110 (.bool b)) 20 110 true).run Tryz.prog w = .ok (.tuple #[.bool b, .bool true]) w := fun w => asto_yes (z := .bool false) Tryz.underlying110 (fun m h => by cases h) (by kernel_rfl)
  have HT := Lib.hid (plTruth b)
  generalize (if b = true then (1 : Int) else 0) = I at HT
  go_enter Tryz.func59, Tryz.ntmps59
  go_wp2_with fail
  refine (HT.out _).mono ?_
  rintro e w1 ⟨rfl, b1⟩
  have d1 := (D5.new w (.int .i64 0) (.int .i64 0) (.int .u64 0) (.string ⟨#[]⟩) (.slice none 0 0)).below b1
  obtain ⟨c0, c1, c2, c3, c4⟩ := d1.c
  have fz : ∀ o, w1.frozen? ⟨w.heap.size, o, none⟩ = false := fun o => d1.f
  have B := (below1 w _).trans (b1.mono (by simp))
  go_wp2
  refine bodyPost_ret (v := .agg #[.int .i64 6, .int .i64 I, .int .u64 0, .string ⟨#[]⟩, .slice none 0 0]) (by simp [results, Tryz.results59, go_sem, World.cell?_setCell_same, World.cell?_setCell_other, c0, c1, c2, c3, c4]) rfl ⟨rfl, ?_⟩
  exact ((((B.setCell (Nat.le_refl _) _).setCell (Nat.le_refl _) _).setCell (Nat.le_refl _) _).setCell (Nat.le_refl _) _).setCell (Nat.le_refl _) _

set_option maxRecDepth 100000 in
set_option maxHeartbeats 2000000 in
theorem pl10 (c : Int) (s : ByteArray) (w : World) : Calls Tryz.prog 59 #[.iface 75 (.agg #[.int .i64 c, .string s])] w fun e w' => e = .returned (.agg #[.int .i64 10, .int .i64 c, .int .u64 0, .string s, .slice none 0 0]) ∧ Below w.heap.size w w' := by
  have a0 : ∀ w : World, (Instr.typeAssert (.iface 75 (.agg #[.int .i64 c, .string s])) 20 113 true).run Tryz.prog w = .ok (.tuple #[.int .i64 0, .bool false]) w := fun w => asto_no (z := .int .i64 0) Tryz.underlying113 (fun m h => by cases h) (by kernel_rfl) (by decide)
  have a1 : ∀ w : World, (Instr.typeAssert (.iface 75 (.agg #[.int .i64 c, .string s])) 20 128 true).run Tryz.prog w = .ok (.tuple #[.int .i64 0, .bool false]) w := fun w => asto_no (z := .int .i64 0) Tryz.underlying128 (fun m h => by cases h) (by kernel_rfl) (by decide)
  have a2 : ∀ w : World, (Instr.typeAssert (.iface 75 (.agg #[.int .i64 c, .string s])) 20 129 true).run Tryz.prog w = .ok (.tuple #[.float .f64 0, .bool false]) w := fun w => asto_no (z := .float .f64 0) Tryz.underlying129 (fun m h => by cases h) (by kernel_rfl) (by decide)
  have a3 : ∀ w : World, (Instr.typeAssert (.iface 75 (.agg #[.int .i64 c, .string s])) 20 131 true).run Tryz.prog w = .ok (.tuple #[.string ⟨#[]⟩, .bool false]) w := fun w => asto_no (z := .string ⟨#[]⟩) Tryz.underlying131 (fun m h => by cases h) (by kernel_rfl) (by decide)
  have a4 : ∀ w : World, (Instr.typeAssert (.iface 75 (.agg #[.int .i64 c, .string s])) 20 132 true).run Tryz.prog w = .ok (.tuple #[.string ⟨#[]⟩, .bool false]) w := fun w => asto_no (z := .string ⟨#[]⟩) Tryz.underlying132 (fun m h => by cases h) (by kernel_rfl) (by decide)
  have a5 : ∀ w : World, (Instr.typeAssert (.iface 75 (.agg #[.int .i64 c, .string s])) 20 110 true).run Tryz.prog w = .ok (.tuple #[.bool false, .bool false]) w := fun w => asto_no (z := .bool false) Tryz.underlying110 (fun m h => by cases h) (by kernel_rfl) (by decide)
  have a6 : ∀ w : World, (Instr.typeAssert (.iface 75 (.agg #[.int .i64 c, .string s])) 20 135 true).run Tryz.prog w = .ok (.tuple #[.slice none 0 0, .bool false]) w := fun w => asto_no (z := .slice none 0 0) Tryz.underlying135 (fun m h => by cases h) (by kernel_rfl) (by decide)
  have a7 : ∀ w : World, (Instr.typeAssert (.iface 75 (.agg #[.int .i64 c, .string s])) 20 137 true).run Tryz.prog w = .ok (.tuple #[.slice none 0 0, .bool false]) w := fun w => asto_no (z := .slice none 0 0) Tryz.underlying137 (fun m h => by cases h) (by kernel_rfl) (by decide)
  have a8 : ∀ w : World, (Instr.typeAssert (.iface 75 (.agg #[.int .i64 c, .string s])) 20 140 true).run Tryz.prog w = .ok (.tuple #[.agg #[.nilIface, .nilIface], .bool false]) w := fun w => asto_no (z := .agg #[.nilIface, .nilIface]) Tryz.underlying140 (fun m h => by cases h) (by kernel_rfl) (by decide)
  have a9 : ∀ w : World, (Instr.typeAssert (.iface 75 (.agg #[.int .i64 c, .string s])) 20 75 true).run Tryz.prog w = .ok (.tuple #[.agg #[.int .i64 c, .string s], .bool true]) w := fun w => asto_yes (z := .agg #[.int .i64 0, .string ⟨#[]⟩]) Tryz.underlying75 (fun m h => by cases h) (by kernel_rfl)
  go_enter Tryz.func59, Tryz.ntmps59
  go_wp2
  refine bodyPost_ret (v := .agg #[.int .i64 10, .int .i64 c, .int .u64 0, .string s, .slice none 0 0]) (by simp [results, Tryz.results59, go_sem]) rfl ⟨rfl, ?_⟩
  first | exact below1 w _ | exact below2 w _ _

set_option maxRecDepth 100000 in
set_option maxHeartbeats 2000000 in
theorem pl13 (w : World) : Calls Tryz.prog 59 #[.iface 143 (.agg #[])] w fun e w' => e = .returned (.agg #[.int .i64 13, .int .i64 0, .int .u64 0, .string ⟨#[]⟩, .slice none 0 0]) ∧ Below w.heap.size w w' := by
  have a0 : ∀ w : World, (Instr.typeAssert (.iface 143 (.agg #[])) 20 113 true).run Tryz.prog w = .ok (.tuple #[.int .i64 0, .bool false]) w := fun w => asto_no (z := .int .i64 0) Tryz.underlying113 (fun m h => by cases h) (by kernel_rfl) (by decide)
  have a1 : ∀ w : World, (Instr.typeAssert (.iface 143 (.agg #[])) 20 128 true).run Tryz.prog w = .ok (.tuple #[.int .i64 0, .bool false]) w := fun w => asto_no (z := .int .i64 0) Tryz.underlying128 (fun m h => by cases h) (by kernel_rfl) (by decide)
  have a2 : ∀ w : World, (Instr.typeAssert (.iface 143 (.agg #[])) 20 129 true).run Tryz.prog w = .ok (.tuple #[.float .f64 0, .bool false]) w := fun w => asto_no (z := .float .f64 0) Tryz.underlying129 (fun m h => by cases h) (by kernel_rfl) (by decide)
  have a3 : ∀ w : World, (Instr.typeAssert (.iface 143 (.agg #[])) 20 131 true).run Tryz.prog w = .ok (.tuple #[.string ⟨#[]⟩, .bool false]) w := fun w => asto_no (z := .string ⟨#[]⟩) Tryz.underlying131 (fun m h => by cases h) (by kernel_rfl) (by decide)
  have a4 : ∀ w : World, (Instr.typeAssert (.iface 143 (.agg #[])) 20 132 true).run Tryz.prog w = .ok (.tuple #[.string ⟨#[]⟩, .bool false]) w := fun w => asto_no (z := .string ⟨#[]⟩) Tryz.underlying132 (fun m h => by cases h) (by kernel_rfl) (by decide)
  have a5 : ∀ w : World, (Instr.typeAssert (.iface 143 (.agg #[])) 20 110 true).run Tryz.prog w = .ok (.tuple #[.bool false, .bool false]) w := fun w => asto_no (z := .bool false) Tryz.underlying110 (fun m h => by cases h) (by kernel_rfl) (by decide)
  have a6 : ∀ w : World, (Instr.typeAssert (.iface 143 (.agg #[])) 20 135 true).run Tryz.prog w = .ok (.tuple #[.slice none 0 0, .bool false]) w := fun w => asto_no (z := .slice none 0 0) Tryz.underlying135 (fun m h => by cases h) (by kernel_rfl) (by decide)
  have a7 : ∀ w : World, (Instr.typeAssert (.iface 143 (.agg #[])) 20 137 true).run Tryz.prog w = .ok (.tuple #[.slice none 0 0, .bool false]) w := fun w => asto_no (z := .slice none 0 0) Tryz.underlying137 (fun m h => by cases h) (by kernel_rfl) (by decide)
  have a8 : ∀ w : World, (Instr.typeAssert (.iface 143 (.agg #[])) 20 140 true).run Tryz.prog w = .ok (.tuple #[.agg #[.nilIface, .nilIface], .bool false]) w := fun w => asto_no (z := .agg #[.nilIface, .nilIface]) Tryz.underlying140 (fun m h => by cases h) (by kernel_rfl) (by decide)
  have a9 : ∀ w : World, (Instr.typeAssert (.iface 143 (.agg #[])) 20 75 true).run Tryz.prog w = .ok (.tuple #[.agg #[.int .i64 0, .string ⟨#[]⟩], .bool false]) w := fun w => asto_no (z := .agg #[.int .i64 0, .string ⟨#[]⟩]) Tryz.underlying75 (fun m h => by cases h) (by kernel_rfl) (by decide)
  have a10 : ∀ w : World, (Instr.typeAssert (.iface 143 (.agg #[])) 20 141 true).run Tryz.prog w = .ok (.tuple #[.pointer none, .bool false]) w := fun w => asto_no (z := .pointer none) Tryz.underlying141 (fun m h => by cases h) (by kernel_rfl) (by decide)
  have a11 : ∀ w : World, (Instr.typeAssert (.iface 143 (.agg #[])) 20 143 true).run Tryz.prog w = .ok (.tuple #[.agg #[], .bool true]) w := fun w => asto_yes (z := .agg #[]) Tryz.underlying143 (fun m h => by cases h) (by kernel_rfl)
  go_enter Tryz.func59, Tryz.ntmps59
  go_wp2
  refine bodyPost_ret (v := .agg #[.int .i64 13, .int .i64 0, .int .u64 0, .string ⟨#[]⟩, .slice none 0 0]) (by simp [results, Tryz.results59, go_sem]) rfl ⟨rfl, ?_⟩
  first | exact below1 w _ | exact below2 w _ _
end Go.Proofs.YthamafijjflfbaaGreat.Dt
/- The size of a value, asked for by a two-valued assertion: the size, or none; the conditions: what stands for the value. -/
namespace Go.Proofs.YthamafijjflfbaaGreat
open Go.RowKit

/-- A value that tells its size. -/
def Szd (v : Value) (r : Int) : Prop := ∃ T z F, v = .iface T z ∧ (∀ w : World, (method 320 T z "Size").run Tryz.prog w = .ok (F, z) w) ∧ (∀ (args : Array Value) (w : World), (callFunc F args).run Tryz.prog w = .ok (.enter F args) w) ∧ (∀ w : World, (Instr.typeAssert (.iface T z) 20 115 true).run Tryz.prog w = .ok (.tuple #[.iface T z, .bool true]) w) ∧ (∀ w, Calls Tryz.prog F #[z] w fun e w' => e = .returned (.int .i64 r) ∧ Below w.heap.size w w')

set_option maxRecDepth 100000 in
set_option maxHeartbeats 2000000 in
theorem size_yes (k i u r : Int) (s : ByteArray) (ad : Option Addr) (len cap : Nat) (w : World)
    (hO : ∀ wx, Below w.heap.size w wx → Calls Tryz.prog 58 #[.agg #[.int .i64 k, .int .i64 i, .int .u64 u, .string s, .slice ad len cap]] wx fun e w' => ∃ v, e = .returned v ∧ Hid (Szd v r) ∧ Below wx.heap.size wx w') :
    Calls Tryz.prog 46 #[.agg #[.int .i64 k, .int .i64 i, .int .u64 u, .string s, .slice ad len cap]] w fun e w' => e = .returned (.agg (rcs 0 0 0 0 true 1 r 0 ⟨#[]⟩ none 0 0)) ∧ Below w.heap.size w w' := by
  have GV : Hid (∀ (k i b : Int) (s : ByteArray) (ad : Option Addr) (len cap : Nat) (w : World), Calls Tryz.prog 38 #[.agg #[.int .i64 k, .int .i64 i, .int .u64 b, .string s, .slice ad len cap]] w fun e w' => e = .returned (.agg (rcs 0 0 0 0 true k i b s ad len cap)) ∧ Below w.heap.size w w') := gave_any
  have PL := Lib.hid Dt.pl1
  have HO := Lib.hid hO
  clear hO
  have B0 := below2 w (.cells #[.int .i64 k, .int .i64 i, .int .u64 u, .string s, .slice ad len cap] 25) (.cells (rErr 0 0 0 0) 35)
  have R0 := Bk.new2 w (.cells #[.int .i64 k, .int .i64 i, .int .u64 u, .string s, .slice ad len cap] 25) (rErr 0 0 0 0) 35
  go_enter Tryz.func46, Tryz.ntmps46
  go_wp2_with fail
  refine (HO.out _ B0).mono ?_
  rintro e w1 ⟨v, rfl, hs, b1⟩
  have B1 := B0.trans (b1.mono B0.size)
  have R1 := R0.step b1
  obtain ⟨T, z, F, rfl, hmm, hcf, has, hS⟩ := hs.out
  have HS := Lib.hid hS
  clear hS hs b1 B0 R0
  go_wp2_with fail
  refine (HS.out _).mono ?_
  rintro e w2 ⟨rfl, b2⟩
  have B2 := B1.trans (b2.mono B1.size)
  have R2 := R1.step b2
  clear b2 B1 R1
  go_wp2_with fail
  refine (PL.out r _).mono ?_
  rintro e w3 ⟨rfl, b3⟩
  have B3 := B2.trans (b3.mono B2.size)
  have R3 := R2.step b3
  clear b3 B2 R2
  go_wp2_with fail
  refine (GV.out _ _ _ _ _ _ _ _).mono ?_
  rintro e w4 ⟨rfl, b4⟩
  have B4 := B3.trans (b4.mono B3.size)
  have r2 := R3.step b4
  clear b4 B3 R3
  obtain ⟨c0, c1, c2, c3, c4, c5, c6, c7, c8, c9⟩ := r2.c10
  have z2 := r2.f
  go_wp2_with fail
  obtain ⟨k1, k2, k3, k4⟩ := set10 r2 (.int .i64 0) (.int .i64 0) (.int .i64 0) (.int .i64 0) (.bool true) (.int .i64 1) (.int .i64 r) (.int .u64 0) (.string ⟨#[]⟩) (.slice none 0 0) rfl
  have KF := B4.trans (k4.mono (by omega))
  obtain ⟨q0, q1, q2, q3, q4, q5, q6, q7, q8, q9⟩ := k1.c10
  refine bodyPost_ret (v := .agg (rcs 0 0 0 0 true 1 r 0 ⟨#[]⟩ none 0 0)) ?_ rfl ⟨rfl, KF⟩
  simp [results, Tryz.results46, go_sem, q0, q1, q2, q3, q4, q5, q6, q7, q8, q9]

set_option maxRecDepth 100000 in
set_option maxHeartbeats 2000000 in
theorem size_no (k i u : Int) (s : ByteArray) (ad : Option Addr) (len cap : Nat) (w : World)
    (hO : ∀ wx, Below w.heap.size w wx → Calls Tryz.prog 58 #[.agg #[.int .i64 k, .int .i64 i, .int .u64 u, .string s, .slice ad len cap]] wx fun e w' => ∃ v, e = .returned v ∧ Sx v ∧ Hid (∀ w, (Instr.typeAssert v 20 115 true).run Tryz.prog w = .ok (.tuple #[.nilIface, .bool false]) w) ∧ Below wx.heap.size wx w') :
    Calls Tryz.prog 46 #[.agg #[.int .i64 k, .int .i64 i, .int .u64 u, .string s, .slice ad len cap]] w fun e w' => e = .returned (.agg (rErr 12 0 0 0)) ∧ Below w.heap.size w w' := by
  have HO := Lib.hid hO
  clear hO
  have B0 := below2 w (.cells #[.int .i64 k, .int .i64 i, .int .u64 u, .string s, .slice ad len cap] 25) (.cells (rErr 0 0 0 0) 35)
  have R0 := Bk.new2 w (.cells #[.int .i64 k, .int .i64 i, .int .u64 u, .string s, .slice ad len cap] 25) (rErr 0 0 0 0) 35
  go_enter Tryz.func46, Tryz.ntmps46
  go_wp2_with fail
  refine (HO.out _ B0).mono ?_
  rintro e w1 ⟨v, rfl, hs, ha, b1⟩
  have B1 := B0.trans (b1.mono B0.size)
  have r2 := R0.step b1
  have has := ha.out
  clear b1 B0 R0 ha
  obtain ⟨c0, c1, c2, c3, c4, c5, c6, c7, c8, c9⟩ := r2.c10
  have z2 := r2.f
  rcases hs with rfl | ⟨T, z, rfl⟩
  all_goals
    go_wp2_with fail
    obtain ⟨k1, k2, k3, k4⟩ := set10 r2 (.int .i64 12) (.int .i64 0) (.int .i64 0) (.int .i64 0) (.bool false) (.int .i64 0) (.int .i64 0) (.int .u64 0) (.string ⟨#[]⟩) (.slice none 0 0) rfl
    have KF := B1.trans (k4.mono (by omega))
    obtain ⟨q0, q1, q2, q3, q4, q5, q6, q7, q8, q9⟩ := k1.c10
    refine bodyPost_ret (v := .agg (rErr 12 0 0 0)) ?_ rfl ⟨rfl, KF⟩
    simp [results, Tryz.results46, go_sem, q0, q1, q2, q3, q4, q5, q6, q7, q8, q9]
end Go.Proofs.YthamafijjflfbaaGreat
/- The package's Plain of a row: a list of the plain data in new memory; the conditions: the row in memory, and Plain's own contract for the parts. -/
namespace Go.Proofs.YthamafijjflfbaaGreat.Dt
open Go.RowKit
set_option maxRecDepth 100000 in
set_option maxHeartbeats 2000000 in
theorem all_pl (F0 : Nat → Prop) (W0 : World) (m : Nat) (ks : List (Tr m))
    (ih : ∀ (t : Tr m) (v : Value) (w : World), rgt m t = true → r64 m t → (pts m t).1 ≤ 4096 → VR F0 W0 m v t → Below W0.heap.size W0 w →
      Calls Tryz.prog 59 #[v] w fun e w' => ∃ v0 v1 v2 v3 v4, e = .returned (.agg #[v0, v1, v2, v3, v4]) ∧ Rf (fun g => w.heap.size ≤ g ∧ g < w'.heap.size) w' m [v0, v1, v2, v3, v4] t ∧ Below w.heap.size w w')
    (ad : Option Addr) (cap : Nat) (w : World) (hb0 : Below W0.heap.size W0 w) (hn : ks.length ≤ 4096) (hrg : ks.all (rgt m) = true) (hps : ∀ t ∈ ks, (pts m t).1 ≤ 4096) (h64 : ∀ t ∈ ks, r64 m t)
    (hk : (ks = [] ∨ ∃ g, ad = some ⟨g, 0, none⟩ ∧ ∀ (j : Nat) (t' : Tr m), ks[j]? = some t' → ∃ u, W0.cell? ⟨g, j, none⟩ = some u ∧ VR F0 W0 m u t')) :
    Calls Tryz.prog 78 #[.slice ad ks.length cap] w fun e w' => ∃ g c, e = .returned (.slice (some ⟨g, 0, none⟩) ks.length c) ∧ ks.length ≤ c ∧ c ≤ maxLen ∧ w.heap.size ≤ g ∧ g < w'.heap.size ∧ (∀ q, w'.frozen? ⟨g, q, none⟩ = false) ∧ (∀ (j : Nat) (t : Tr m), ks[j]? = some t → ∃ v0 v1 v2 v3 v4, w'.cell? ⟨g, j * 5, none⟩ = some v0 ∧ w'.cell? ⟨g, j * 5 + 1, none⟩ = some v1 ∧ w'.cell? ⟨g, j * 5 + 2, none⟩ = some v2 ∧ w'.cell? ⟨g, j * 5 + 3, none⟩ = some v3 ∧ w'.cell? ⟨g, j * 5 + 4, none⟩ = some v4 ∧ Rf (fun g => w.heap.size ≤ g ∧ g < w'.heap.size) w' m [v0, v1, v2, v3, v4] t) ∧ Below w.heap.size w w' := by
  obtain ⟨i0, hz20, hze, hsz, hby⟩ := infoDat_parts
  have hmk : ∀ w : World, (Instr.makeSlice 23 (.int .i64 ks.length) (.int .i64 ks.length)).run Tryz.prog w = .ok (.slice (some ⟨w.heap.size, 0, none⟩) ks.length ks.length) (w.alloc (.cells (madeCells (Value.cells (.agg #[.int .i64 0, .int .i64 0, .int .u64 0, .string ⟨#[]⟩, .slice none 0 0])) (ks.length * 5)) 25)) := fun w => by
    have := run_makeSlice (P := Tryz.prog) w 23 25 i0 _ Tryz.underlying23 hz20 hze .i64 .i64 ks.length ks.length (by omega) (Int.le_refl _) (by rw [hsz]; simp; omega) (by rw [hby]; omega) (by omega)
    simpa [hsz] using this
  have hb0s := hb0.size
  have r2 : Rq (w.alloc (.cells (madeCells (Value.cells (.agg #[.int .i64 0, .int .i64 0, .int .u64 0, .string ⟨#[]⟩, .slice none 0 0])) (ks.length * 5)) 25)) w.heap.size ks.length := by
    exact ⟨_, heap_alloc_new w _, size_madeCells _ _⟩
  have b2 : Below w.heap.size w (w.alloc (.cells (madeCells (Value.cells (.agg #[.int .i64 0, .int .i64 0, .int .u64 0, .string ⟨#[]⟩, .slice none 0 0])) (ks.length * 5)) 25)) := below1 w _
  have HI := Lib.hid ih
  have HK := Lib.hid hk
  have HR := Lib.hid hrg
  have HP := Lib.hid hps
  have H6 := Lib.hid h64
  clear ih hk hrg hps h64 hz20 hsz hby hze
  generalize madeCells (Value.cells (.agg #[.int .i64 0, .int .i64 0, .int .u64 0, .string ⟨#[]⟩, .slice none 0 0])) (ks.length * 5) = mc at *
  go_enter Tryz.func78, Tryz.ntmps78
  go_wp2_with fail
  go_loopw [11] (fun si wr => ∃ (j : Nat), si = .int .i64 j ∧ j ≤ ks.length ∧ Lq wr w.heap.size ks.length (fun g => w.heap.size + 1 ≤ g ∧ g < wr.heap.size) m ks j ∧ Below w.heap.size w wr) (fun si _ => ks.length - (intOf si).toNat)
  case atStart => exact ⟨0, rfl, Nat.zero_le _, ⟨r2, fun k _ hk => absurd hk (Nat.not_lt_zero _)⟩, b2⟩
  case round =>
    obtain ⟨j, rfl, hj, rw1, g1⟩ := hrel
    have o1 : Below W0.heap.size W0 wr := hb0.trans (g1.mono hb0.size)
    by_cases hlt : j < ks.length
    · have hne : ks ≠ [] := by intro e; rw [e] at hlt; exact absurd hlt (Nat.not_lt_zero _)
      rcases HK.out with hk | ⟨g, hk1, hk2⟩
      · exact absurd hk hne
      subst hk1
      obtain ⟨v, e0, rk⟩ := hk2 j _ (List.getElem?_eq_getElem hlt)
      have hg : g < W0.heap.size := World.block_lt_of_cell? W0 _ e0
      have y0 := (o1.cell (p := ⟨g, j, none⟩) hg).trans e0
      have hrt : rgt m ks[j] = true := List.all_eq_true.1 HR.out _ (List.getElem_mem hlt)
      have h4 := HP.out _ (List.getElem_mem hlt)
      have h6 := H6.out _ (List.getElem_mem hlt)
      have sx := vr_any rk
      have zr := rw1.1.lt
      have HV := Lib.hid (HI.out ks[j] v wr hrt h6 h4 rk o1)
      clear e0 hk2 HK
      have step : Hid (∀ w2 v0 v1 v2 v3 v4, Below wr.heap.size wr w2 → Rf (fun g => wr.heap.size ≤ g ∧ g < w2.heap.size) w2 m [v0, v1, v2, v3, v4] ks[j] → ∀ W, W = ((((w2.setCell ⟨w.heap.size, j * 5, none⟩ v0).setCell ⟨w.heap.size, j * 5 + 1, none⟩ v1).setCell ⟨w.heap.size, j * 5 + 2, none⟩ v2).setCell ⟨w.heap.size, j * 5 + 3, none⟩ v3).setCell ⟨w.heap.size, j * 5 + 4, none⟩ v4 → Lq W w.heap.size ks.length (fun g => w.heap.size + 1 ≤ g ∧ g < W.heap.size) m ks (j + 1) ∧ Below w.heap.size w W) := fun w2 v0 v1 v2 v3 v4 bw rf W hW => by
        have k2 := rw1.1.below bw
        have hs2 := bw.size
        obtain ⟨s1, s2, s3, s4, s5⟩ := set5_at w2 w.heap.size ks.length j k2 hlt v0 v1 v2 v3 v4 hW
        refine ⟨⟨s1, fun k t hk ht => ?_⟩, ?_⟩
        · by_cases e : k = j
          · subst e
            rw [List.getElem?_eq_getElem hlt] at ht
            obtain rfl := Option.some.inj ht
            obtain ⟨a0, a1, a2, a3, a4⟩ := s4
            exact ⟨v0, v1, v2, v3, v4, a0, a1, a2, a3, a4, Rf.to (fun q hq => ⟨⟨by have := hq.1; omega, by rw [s2]; exact hq.2⟩, s3 q (by have := hq.1; omega)⟩) _ _ _ rf⟩
          · obtain ⟨u0, u1, u2, u3, u4, a0, a1, a2, a3, a4, rr⟩ := rw1.2 k t (by omega) ht
            have tr : ∀ o x, (o < j * 5 ∨ j * 5 + 4 < o) → wr.cell? ⟨w.heap.size, o, none⟩ = some x → W.cell? ⟨w.heap.size, o, none⟩ = some x := fun o x ho hx => (s5 o ho).trans ((bw.cell (p := ⟨w.heap.size, o, none⟩) zr).trans hx)
            exact ⟨u0, u1, u2, u3, u4, tr _ _ (by omega) a0, tr _ _ (by omega) a1, tr _ _ (by omega) a2, tr _ _ (by omega) a3, tr _ _ (by omega) a4, Rf.to (fun q hq => ⟨⟨hq.1, by rw [s2]; have := hq.2; omega⟩, (s3 q (by have := hq.1; omega)).trans (bw.block q hq.2)⟩) _ _ _ rr⟩
        · subst hW
          have g2 : Below w.heap.size w w2 := g1.trans (bw.mono g1.size)
          exact ((((g2.setCell (Nat.le_refl _) _).setCell (Nat.le_refl _) _).setCell (Nat.le_refl _) _).setCell (Nat.le_refl _) _).setCell (Nat.le_refl _) _
      have kcs : Hid (∀ w2, Below wr.heap.size wr w2 → (∃ x, w2.cell? ⟨w.heap.size, j * 5, none⟩ = some x) ∧ (∃ x, w2.cell? ⟨w.heap.size, j * 5 + 1, none⟩ = some x) ∧ (∃ x, w2.cell? ⟨w.heap.size, j * 5 + 2, none⟩ = some x) ∧ (∃ x, w2.cell? ⟨w.heap.size, j * 5 + 3, none⟩ = some x) ∧ (∃ x, w2.cell? ⟨w.heap.size, j * 5 + 4, none⟩ = some x) ∧ ∀ o, w2.frozen? ⟨w.heap.size, o, none⟩ = false) := fun w2 bw => by
        have k2 := rw1.1.below bw
        exact ⟨k2.c (by omega), k2.c (by omega), k2.c (by omega), k2.c (by omega), k2.c (by omega), fun o => k2.f⟩
      clear rw1 rk o1
      rcases sx with rfl | ⟨T, z, rfl⟩
      all_goals
        go_wp2_with fail
        refine HV.out.mono ?_
        rintro e w2 ⟨v0, v1, v2, v3, v4, rfl, rf, bw⟩
        obtain ⟨u0, u1, u2, u3, a4, n4, c4', rfl, rfl, rfl, rfl, rfl⟩ := rep_shape (Rf.rep _ _ _ rf)
        have st := Lib.hid (step.out w2 _ _ _ _ _ bw rf)
        obtain ⟨⟨x0, k0⟩, ⟨x1, k1⟩, ⟨x2, k2⟩, ⟨x3, k3⟩, ⟨x4, k4⟩, kf⟩ := kcs.out w2 bw
        clear rf
        go_wp2_with fail
        exact ⟨⟨j + 1, by go_num, by omega, st.out _ rfl⟩, by simp [intOf]; omega⟩
    · have hje : j = ks.length := by omega
      subst hje
      have zr := rw1.1.lt
      go_wp2_with fail
      go_ret
      exact ⟨_, _, rfl, Nat.le_refl _, by unfold maxLen; omega, Nat.le_refl _, zr, fun q => rw1.1.f, fun j t h => by
        obtain ⟨v0, v1, v2, v3, v4, a0, a1, a2, a3, a4, r⟩ := rw1.2 j t (List.getElem?_eq_some_iff.1 h).1 h
        exact ⟨v0, v1, v2, v3, v4, a0, a1, a2, a3, a4, Rf.to (fun q hq => ⟨⟨by have := hq.1; omega, hq.2⟩, rfl⟩) _ _ _ r⟩, g1⟩

end Go.Proofs.YthamafijjflfbaaGreat.Dt
