/- The package's Length and the document's, of a value's tree: one answer; the conditions: the tree in memory, valid. -/
import Derived.Test.YtlmebokbbhjbmaaGreatDoorDCount
namespace Go.Proofs.YtlmebokbbhjbmaaGreatDoor.Dt
open Go.RowKit
/-- What Length answers: by the kind, the text's length, the list's. -/
def lenP (k : Int) (s l : Nat) : Int × Int := if k = 4 ∨ k = 5 ∨ k = 7 then (s, 0) else if k = 8 then (l, 0) else if k = 9 then (2, 0) else if k = 11 then (1, 0) else if k = 12 then (0, 0) else (0, 12)
set_option maxRecDepth 100000 in
set_option maxHeartbeats 1000000 in
theorem refLen (k i u : Int) (s : ByteArray) (ad : Option Addr) (len cap : Nat) (w : World) :
    Calls Tryz.prog 7 #[.agg #[.int .i64 k, .int .i64 i, .int .u64 u, .string s, .slice ad len cap]] w fun e w' => e = .returned (.tuple #[.int .i64 (lenP k s.size len).1, .int .i64 (lenP k s.size len).2]) ∧ Below w.heap.size w w' := by
  have hR : ∀ A, lenP k s.size len = A → (Calls Tryz.prog 7 #[.agg #[.int .i64 k, .int .i64 i, .int .u64 u, .string s, .slice ad len cap]] w fun e w' => e = .returned (.tuple #[.int .i64 A.1, .int .i64 A.2]) ∧ Below w.heap.size w w') → (Calls Tryz.prog 7 #[.agg #[.int .i64 k, .int .i64 i, .int .u64 u, .string s, .slice ad len cap]] w fun e w' => e = .returned (.tuple #[.int .i64 (lenP k s.size len).1, .int .i64 (lenP k s.size len).2]) ∧ Below w.heap.size w w') := fun A hA h => by rw [hA]; exact h
  by_cases h4 : k = 4
  · subst h4
    refine hR ((s.size : Int), 0) (by simp [lenP]) ?_
    clear hR
    go_enter Tryz.func7, Tryz.ntmps7
    go_wp2
    go_ret2
    exact ⟨rfl, below1 _ _⟩
  by_cases h5 : k = 5
  · subst h5
    refine hR ((s.size : Int), 0) (by simp [lenP]) ?_
    clear hR
    go_enter Tryz.func7, Tryz.ntmps7
    go_wp2
    go_ret2
    exact ⟨rfl, below1 _ _⟩
  by_cases h7 : k = 7
  · subst h7
    refine hR ((s.size : Int), 0) (by simp [lenP]) ?_
    clear hR
    go_enter Tryz.func7, Tryz.ntmps7
    go_wp2
    go_ret2
    exact ⟨rfl, below1 _ _⟩
  by_cases h8 : k = 8
  · subst h8
    refine hR ((len : Int), 0) (by simp [lenP]) ?_
    clear hR
    go_enter Tryz.func7, Tryz.ntmps7
    go_wp2
    go_ret2
    exact ⟨rfl, below1 _ _⟩
  by_cases h9 : k = 9
  · subst h9
    refine hR (2, 0) (by simp [lenP]) ?_
    clear hR
    go_enter Tryz.func7, Tryz.ntmps7
    go_wp2
    go_ret2
    exact ⟨rfl, below1 _ _⟩
  by_cases h11 : k = 11
  · subst h11
    refine hR (1, 0) (by simp [lenP]) ?_
    clear hR
    go_enter Tryz.func7, Tryz.ntmps7
    go_wp2
    go_ret2
    exact ⟨rfl, below1 _ _⟩
  by_cases h12 : k = 12
  · subst h12
    refine hR (0, 0) (by simp [lenP]) ?_
    clear hR
    go_enter Tryz.func7, Tryz.ntmps7
    go_wp2
    go_ret2
    exact ⟨rfl, below1 _ _⟩
  · refine hR (0, 12) (by simp [lenP, *]) ?_
    clear hR
    go_enter Tryz.func7, Tryz.ntmps7
    go_wp2
    go_ret2
    exact ⟨rfl, below1 _ _⟩
theorem sizeText (s : ByteArray) (w : World) : Calls Tryz.prog 131 #[.string s] w fun e w' => e = .returned (.int .i64 ((s.size : Int))) ∧ w' = w := by
  go_enter Tryz.func131, Tryz.ntmps131
  go_wp2
  go_ret
  exact ⟨rfl, rfl⟩
theorem sizeName (s : ByteArray) (w : World) : Calls Tryz.prog 135 #[.string s] w fun e w' => e = .returned (.int .i64 ((s.size : Int))) ∧ w' = w := by
  go_enter Tryz.func135, Tryz.ntmps135
  go_wp2
  go_ret
  exact ⟨rfl, rfl⟩
theorem sizeOct (a : Option Addr) (n c : Nat) (w : World) : Calls Tryz.prog 137 #[.slice a n c] w fun e w' => e = .returned (.int .i64 ((n : Int))) ∧ w' = w := by
  go_enter Tryz.func137, Tryz.ntmps137
  go_wp2
  go_ret
  exact ⟨rfl, rfl⟩
theorem sizeRow (a : Option Addr) (n c : Nat) (w : World) : Calls Tryz.prog 138 #[.slice a n c] w fun e w' => e = .returned (.int .i64 ((n : Int))) ∧ w' = w := by
  go_enter Tryz.func138, Tryz.ntmps138
  go_wp2
  go_ret
  exact ⟨rfl, rfl⟩
theorem sizeBox (p : Addr) (w : World) : Calls Tryz.prog 144 #[.pointer (some p)] w fun e w' => e = .returned (.int .i64 (1)) ∧ w' = w := by
  go_enter Tryz.func144, Tryz.ntmps144
  go_wp2
  go_ret
  exact ⟨rfl, rfl⟩
theorem sizeNob  (w : World) : Calls Tryz.prog 144 #[.pointer none] w fun e w' => e = .returned (.int .i64 (0)) ∧ w' = w := by
  go_enter Tryz.func144, Tryz.ntmps144
  go_wp2
  go_ret
  exact ⟨rfl, rfl⟩
theorem sizePair (x y : Value) (hx : Sx x) (hy : Sx y) (w : World) : Calls Tryz.prog 139 #[.agg #[x, y]] w fun e w' => e = .returned (.int .i64 2) ∧ Below w.heap.size w w' := by
  rcases hx with rfl | ⟨T, z, rfl⟩ <;> rcases hy with rfl | ⟨T', z', rfl⟩
  all_goals
    go_enter Tryz.func139, Tryz.ntmps139
    go_wp2
    go_ret
    first | exact ⟨rfl, Below.refl _ _⟩ | exact ⟨rfl, below1 _ _⟩
set_option maxRecDepth 100000 in
set_option maxHeartbeats 2000000 in
theorem lenText (k i u r : Int) (s0 : ByteArray) (ad : Option Addr) (len cap : Nat) (w : World)
    (hO : ∀ wx, Below w.heap.size w wx → Calls Tryz.prog 24 #[.agg #[.int .i64 k, .int .i64 i, .int .u64 u, .string s0, .slice ad len cap]] wx fun e w' => ∃ s : ByteArray,  e = .returned (.iface 98 (.string s)) ∧ (s.size : Int) = r ∧ Below wx.heap.size wx w') :
    Calls Tryz.prog 6 #[.agg #[.int .i64 k, .int .i64 i, .int .u64 u, .string s0, .slice ad len cap]] w fun e w' => e = .returned (.tuple #[.int .i64 r, .int .i64 0]) ∧ Below w.heap.size w w' := by
  have hmf : ∀ (fn : Fn) (first cap : Array Value) (w : World), (Instr.makeFunc fn first cap).run Tryz.prog w = .ok (.func fn first cap) w := fun _ _ _ _ => rfl
  have hmm : ∀ (z : Value) (w : World), (method 323 98 z "Size").run Tryz.prog w = .ok (131, z) w := fun _ _ => by kernel_rfl
  have hcf : ∀ (args : Array Value) (w : World), (callFunc 131 args).run Tryz.prog w = .ok (.enter 131 args) w := fun _ _ => by kernel_rfl
  have has : ∀ (z : Value) (w : World), (Instr.typeAssert (.iface 98 z) 20 52 true).run Tryz.prog w = .ok (.tuple #[.iface 98 z, .bool true]) w := fun z w => run_typeAssert_hasB Tryz.underlying52 (by kernel_rfl) _ _ w
  have b0 := below1 w (.cells #[.int .i64 k, .int .i64 i, .int .u64 u, .string s0, .slice ad len cap] 25)
  have HO := Lib.hid hO
  clear hO
  go_enter Tryz.func6, Tryz.ntmps6
  go_wp2_with fail
  refine (HO.out _ b0).mono ?_
  rintro e w1 ⟨s, rfl, rfl, b1⟩
  have B1 := b0.trans (b1.mono b0.size)
  go_wp2_with fail
  refine (sizeText s _).mono ?_
  rintro e w2 ⟨rfl, rfl⟩
  go_wp2
  go_ret2
  exact ⟨rfl, B1⟩
set_option maxRecDepth 100000 in
set_option maxHeartbeats 2000000 in
theorem lenName (k i u r : Int) (s0 : ByteArray) (ad : Option Addr) (len cap : Nat) (w : World)
    (hO : ∀ wx, Below w.heap.size w wx → Calls Tryz.prog 24 #[.agg #[.int .i64 k, .int .i64 i, .int .u64 u, .string s0, .slice ad len cap]] wx fun e w' => ∃ s : ByteArray,  e = .returned (.iface 99 (.string s)) ∧ (s.size : Int) = r ∧ Below wx.heap.size wx w') :
    Calls Tryz.prog 6 #[.agg #[.int .i64 k, .int .i64 i, .int .u64 u, .string s0, .slice ad len cap]] w fun e w' => e = .returned (.tuple #[.int .i64 r, .int .i64 0]) ∧ Below w.heap.size w w' := by
  have hmf : ∀ (fn : Fn) (first cap : Array Value) (w : World), (Instr.makeFunc fn first cap).run Tryz.prog w = .ok (.func fn first cap) w := fun _ _ _ _ => rfl
  have hmm : ∀ (z : Value) (w : World), (method 323 99 z "Size").run Tryz.prog w = .ok (135, z) w := fun _ _ => by kernel_rfl
  have hcf : ∀ (args : Array Value) (w : World), (callFunc 135 args).run Tryz.prog w = .ok (.enter 135 args) w := fun _ _ => by kernel_rfl
  have has : ∀ (z : Value) (w : World), (Instr.typeAssert (.iface 99 z) 20 52 true).run Tryz.prog w = .ok (.tuple #[.iface 99 z, .bool true]) w := fun z w => run_typeAssert_hasB Tryz.underlying52 (by kernel_rfl) _ _ w
  have b0 := below1 w (.cells #[.int .i64 k, .int .i64 i, .int .u64 u, .string s0, .slice ad len cap] 25)
  have HO := Lib.hid hO
  clear hO
  go_enter Tryz.func6, Tryz.ntmps6
  go_wp2_with fail
  refine (HO.out _ b0).mono ?_
  rintro e w1 ⟨s, rfl, rfl, b1⟩
  have B1 := b0.trans (b1.mono b0.size)
  go_wp2_with fail
  refine (sizeName s _).mono ?_
  rintro e w2 ⟨rfl, rfl⟩
  go_wp2
  go_ret2
  exact ⟨rfl, B1⟩
set_option maxRecDepth 100000 in
set_option maxHeartbeats 2000000 in
theorem lenOct (k i u r : Int) (s0 : ByteArray) (ad : Option Addr) (len cap : Nat) (w : World)
    (hO : ∀ wx, Below w.heap.size w wx → Calls Tryz.prog 24 #[.agg #[.int .i64 k, .int .i64 i, .int .u64 u, .string s0, .slice ad len cap]] wx fun e w' => ∃ (a : Option Addr) (n c : Nat),  e = .returned (.iface 102 (.slice a n c)) ∧ (n : Int) = r ∧ Below wx.heap.size wx w') :
    Calls Tryz.prog 6 #[.agg #[.int .i64 k, .int .i64 i, .int .u64 u, .string s0, .slice ad len cap]] w fun e w' => e = .returned (.tuple #[.int .i64 r, .int .i64 0]) ∧ Below w.heap.size w w' := by
  have hmf : ∀ (fn : Fn) (first cap : Array Value) (w : World), (Instr.makeFunc fn first cap).run Tryz.prog w = .ok (.func fn first cap) w := fun _ _ _ _ => rfl
  have hmm : ∀ (z : Value) (w : World), (method 323 102 z "Size").run Tryz.prog w = .ok (137, z) w := fun _ _ => by kernel_rfl
  have hcf : ∀ (args : Array Value) (w : World), (callFunc 137 args).run Tryz.prog w = .ok (.enter 137 args) w := fun _ _ => by kernel_rfl
  have has : ∀ (z : Value) (w : World), (Instr.typeAssert (.iface 102 z) 20 52 true).run Tryz.prog w = .ok (.tuple #[.iface 102 z, .bool true]) w := fun z w => run_typeAssert_hasB Tryz.underlying52 (by kernel_rfl) _ _ w
  have b0 := below1 w (.cells #[.int .i64 k, .int .i64 i, .int .u64 u, .string s0, .slice ad len cap] 25)
  have HO := Lib.hid hO
  clear hO
  go_enter Tryz.func6, Tryz.ntmps6
  go_wp2_with fail
  refine (HO.out _ b0).mono ?_
  rintro e w1 ⟨a, n, c, rfl, rfl, b1⟩
  have B1 := b0.trans (b1.mono b0.size)
  go_wp2_with fail
  refine (sizeOct a n c _).mono ?_
  rintro e w2 ⟨rfl, rfl⟩
  go_wp2
  go_ret2
  exact ⟨rfl, B1⟩
set_option maxRecDepth 100000 in
set_option maxHeartbeats 2000000 in
theorem lenRow (k i u r : Int) (s0 : ByteArray) (ad : Option Addr) (len cap : Nat) (w : World)
    (hO : ∀ wx, Below w.heap.size w wx → Calls Tryz.prog 24 #[.agg #[.int .i64 k, .int .i64 i, .int .u64 u, .string s0, .slice ad len cap]] wx fun e w' => ∃ (a : Option Addr) (n c : Nat),  e = .returned (.iface 104 (.slice a n c)) ∧ (n : Int) = r ∧ Below wx.heap.size wx w') :
    Calls Tryz.prog 6 #[.agg #[.int .i64 k, .int .i64 i, .int .u64 u, .string s0, .slice ad len cap]] w fun e w' => e = .returned (.tuple #[.int .i64 r, .int .i64 0]) ∧ Below w.heap.size w w' := by
  have hmf : ∀ (fn : Fn) (first cap : Array Value) (w : World), (Instr.makeFunc fn first cap).run Tryz.prog w = .ok (.func fn first cap) w := fun _ _ _ _ => rfl
  have hmm : ∀ (z : Value) (w : World), (method 323 104 z "Size").run Tryz.prog w = .ok (138, z) w := fun _ _ => by kernel_rfl
  have hcf : ∀ (args : Array Value) (w : World), (callFunc 138 args).run Tryz.prog w = .ok (.enter 138 args) w := fun _ _ => by kernel_rfl
  have has : ∀ (z : Value) (w : World), (Instr.typeAssert (.iface 104 z) 20 52 true).run Tryz.prog w = .ok (.tuple #[.iface 104 z, .bool true]) w := fun z w => run_typeAssert_hasB Tryz.underlying52 (by kernel_rfl) _ _ w
  have b0 := below1 w (.cells #[.int .i64 k, .int .i64 i, .int .u64 u, .string s0, .slice ad len cap] 25)
  have HO := Lib.hid hO
  clear hO
  go_enter Tryz.func6, Tryz.ntmps6
  go_wp2_with fail
  refine (HO.out _ b0).mono ?_
  rintro e w1 ⟨a, n, c, rfl, rfl, b1⟩
  have B1 := b0.trans (b1.mono b0.size)
  go_wp2_with fail
  refine (sizeRow a n c _).mono ?_
  rintro e w2 ⟨rfl, rfl⟩
  go_wp2
  go_ret2
  exact ⟨rfl, B1⟩
set_option maxRecDepth 100000 in
set_option maxHeartbeats 2000000 in
theorem lenBox (k i u r : Int) (s0 : ByteArray) (ad : Option Addr) (len cap : Nat) (w : World)
    (hO : ∀ wx, Below w.heap.size w wx → Calls Tryz.prog 24 #[.agg #[.int .i64 k, .int .i64 i, .int .u64 u, .string s0, .slice ad len cap]] wx fun e w' => ∃ p : Addr,  e = .returned (.iface 110 (.pointer (some p))) ∧ 1 = r ∧ Below wx.heap.size wx w') :
    Calls Tryz.prog 6 #[.agg #[.int .i64 k, .int .i64 i, .int .u64 u, .string s0, .slice ad len cap]] w fun e w' => e = .returned (.tuple #[.int .i64 r, .int .i64 0]) ∧ Below w.heap.size w w' := by
  have hmf : ∀ (fn : Fn) (first cap : Array Value) (w : World), (Instr.makeFunc fn first cap).run Tryz.prog w = .ok (.func fn first cap) w := fun _ _ _ _ => rfl
  have hmm : ∀ (z : Value) (w : World), (method 323 110 z "Size").run Tryz.prog w = .ok (144, z) w := fun _ _ => by kernel_rfl
  have hcf : ∀ (args : Array Value) (w : World), (callFunc 144 args).run Tryz.prog w = .ok (.enter 144 args) w := fun _ _ => by kernel_rfl
  have has : ∀ (z : Value) (w : World), (Instr.typeAssert (.iface 110 z) 20 52 true).run Tryz.prog w = .ok (.tuple #[.iface 110 z, .bool true]) w := fun z w => run_typeAssert_hasB Tryz.underlying52 (by kernel_rfl) _ _ w
  have b0 := below1 w (.cells #[.int .i64 k, .int .i64 i, .int .u64 u, .string s0, .slice ad len cap] 25)
  have HO := Lib.hid hO
  clear hO
  go_enter Tryz.func6, Tryz.ntmps6
  go_wp2_with fail
  refine (HO.out _ b0).mono ?_
  rintro e w1 ⟨p, rfl, rfl, b1⟩
  have B1 := b0.trans (b1.mono b0.size)
  go_wp2_with fail
  refine (sizeBox p _).mono ?_
  rintro e w2 ⟨rfl, rfl⟩
  go_wp2
  go_ret2
  exact ⟨rfl, B1⟩
set_option maxRecDepth 100000 in
set_option maxHeartbeats 2000000 in
theorem lenNob (k i u r : Int) (s0 : ByteArray) (ad : Option Addr) (len cap : Nat) (w : World)
    (hO : ∀ wx, Below w.heap.size w wx → Calls Tryz.prog 24 #[.agg #[.int .i64 k, .int .i64 i, .int .u64 u, .string s0, .slice ad len cap]] wx fun e w' =>  e = .returned (.iface 110 (.pointer none)) ∧ 0 = r ∧ Below wx.heap.size wx w') :
    Calls Tryz.prog 6 #[.agg #[.int .i64 k, .int .i64 i, .int .u64 u, .string s0, .slice ad len cap]] w fun e w' => e = .returned (.tuple #[.int .i64 r, .int .i64 0]) ∧ Below w.heap.size w w' := by
  have hmf : ∀ (fn : Fn) (first cap : Array Value) (w : World), (Instr.makeFunc fn first cap).run Tryz.prog w = .ok (.func fn first cap) w := fun _ _ _ _ => rfl
  have hmm : ∀ (z : Value) (w : World), (method 323 110 z "Size").run Tryz.prog w = .ok (144, z) w := fun _ _ => by kernel_rfl
  have hcf : ∀ (args : Array Value) (w : World), (callFunc 144 args).run Tryz.prog w = .ok (.enter 144 args) w := fun _ _ => by kernel_rfl
  have has : ∀ (z : Value) (w : World), (Instr.typeAssert (.iface 110 z) 20 52 true).run Tryz.prog w = .ok (.tuple #[.iface 110 z, .bool true]) w := fun z w => run_typeAssert_hasB Tryz.underlying52 (by kernel_rfl) _ _ w
  have b0 := below1 w (.cells #[.int .i64 k, .int .i64 i, .int .u64 u, .string s0, .slice ad len cap] 25)
  have HO := Lib.hid hO
  clear hO
  go_enter Tryz.func6, Tryz.ntmps6
  go_wp2_with fail
  refine (HO.out _ b0).mono ?_
  rintro e w1 ⟨rfl, rfl, b1⟩
  have B1 := b0.trans (b1.mono b0.size)
  go_wp2_with fail
  refine (sizeNob _).mono ?_
  rintro e w2 ⟨rfl, rfl⟩
  go_wp2
  go_ret2
  exact ⟨rfl, B1⟩
set_option maxRecDepth 100000 in
set_option maxHeartbeats 2000000 in
theorem lenPair (k i u r : Int) (s0 : ByteArray) (ad : Option Addr) (len cap : Nat) (w : World)
    (hO : ∀ wx, Below w.heap.size w wx → Calls Tryz.prog 24 #[.agg #[.int .i64 k, .int .i64 i, .int .u64 u, .string s0, .slice ad len cap]] wx fun e w' => ∃ x y : Value,  e = .returned (.iface 107 (.agg #[x, y])) ∧ Sx x ∧ Sx y ∧ 2 = r ∧ Below wx.heap.size wx w') :
    Calls Tryz.prog 6 #[.agg #[.int .i64 k, .int .i64 i, .int .u64 u, .string s0, .slice ad len cap]] w fun e w' => e = .returned (.tuple #[.int .i64 r, .int .i64 0]) ∧ Below w.heap.size w w' := by
  have hmf : ∀ (fn : Fn) (first cap : Array Value) (w : World), (Instr.makeFunc fn first cap).run Tryz.prog w = .ok (.func fn first cap) w := fun _ _ _ _ => rfl
  have hmm : ∀ (z : Value) (w : World), (method 323 107 z "Size").run Tryz.prog w = .ok (139, z) w := fun _ _ => by kernel_rfl
  have hcf : ∀ (args : Array Value) (w : World), (callFunc 139 args).run Tryz.prog w = .ok (.enter 139 args) w := fun _ _ => by kernel_rfl
  have has : ∀ (z : Value) (w : World), (Instr.typeAssert (.iface 107 z) 20 52 true).run Tryz.prog w = .ok (.tuple #[.iface 107 z, .bool true]) w := fun z w => run_typeAssert_hasB Tryz.underlying52 (by kernel_rfl) _ _ w
  have b0 := below1 w (.cells #[.int .i64 k, .int .i64 i, .int .u64 u, .string s0, .slice ad len cap] 25)
  have HO := Lib.hid hO
  clear hO
  go_enter Tryz.func6, Tryz.ntmps6
  go_wp2_with fail
  refine (HO.out _ b0).mono ?_
  rintro e w1 ⟨x, y, rfl, hx, hy, rfl, b1⟩
  have B1 := b0.trans (b1.mono b0.size)
  have HP := Lib.hid (sizePair x y hx hy w1)
  rcases hx with rfl | ⟨T, z, rfl⟩ <;> rcases hy with rfl | ⟨T', z', rfl⟩
  all_goals
    go_wp2_with fail
    refine HP.out.mono ?_
    rintro e w2 ⟨rfl, b2⟩
    go_wp2
    go_ret2
    exact ⟨rfl, B1.trans (b2.mono B1.size)⟩
end Go.Proofs.YtlmebokbbhjbmaaGreatDoor.Dt
