/- The package's Plain of octets, rows and pointers, and of any value; the conditions: the value in memory, and its tree valid. -/
import Derived.Test.YtajagjcfmaggiaaGreatDoorKCbe
namespace Go.Proofs.YtajagjcfmaggiaaGreatDoor.Dt
open Go.RowKit
set_option maxRecDepth 100000 in
set_option maxHeartbeats 2000000 in
theorem pl7 (s : ByteArray) (g c : Nat) (fr : Nat × Nat) (w : World) (hh : w.heap[g]? = some (.cells (bytesRow s c) 5 fr)) : Calls Tryz.prog 82 #[.iface 147 (.slice (some ⟨g, 0, none⟩) s.size c)] w fun e w' => e = .returned (.agg #[.int .i64 7, .int .i64 0, .int .u64 0, .string s, .slice none 0 0]) ∧ Below w.heap.size w w' := by
  have a0 : ∀ w : World, (Instr.typeAssert (.iface 147 (.slice (some ⟨g, 0, none⟩) s.size c)) 20 140 true).run Tryz.prog w = .ok (.tuple #[.int .i64 0, .bool false]) w := fun w => asto_no (z := .int .i64 0) Tryz.underlying140 (fun m h => by cases h) (by kernel_rfl) (by decide)
  have a1 : ∀ w : World, (Instr.typeAssert (.iface 147 (.slice (some ⟨g, 0, none⟩) s.size c)) 20 141 true).run Tryz.prog w = .ok (.tuple #[.int .i64 0, .bool false]) w := fun w => asto_no (z := .int .i64 0) Tryz.underlying141 (fun m h => by cases h) (by kernel_rfl) (by decide)
  have a2 : ∀ w : World, (Instr.typeAssert (.iface 147 (.slice (some ⟨g, 0, none⟩) s.size c)) 20 142 true).run Tryz.prog w = .ok (.tuple #[.float .f64 0, .bool false]) w := fun w => asto_no (z := .float .f64 0) Tryz.underlying142 (fun m h => by cases h) (by kernel_rfl) (by decide)
  have a3 : ∀ w : World, (Instr.typeAssert (.iface 147 (.slice (some ⟨g, 0, none⟩) s.size c)) 20 101 true).run Tryz.prog w = .ok (.tuple #[.string ⟨#[]⟩, .bool false]) w := fun w => asto_no (z := .string ⟨#[]⟩) Tryz.underlying101 (fun m h => by cases h) (by kernel_rfl) (by decide)
  have a4 : ∀ w : World, (Instr.typeAssert (.iface 147 (.slice (some ⟨g, 0, none⟩) s.size c)) 20 143 true).run Tryz.prog w = .ok (.tuple #[.string ⟨#[]⟩, .bool false]) w := fun w => asto_no (z := .string ⟨#[]⟩) Tryz.underlying143 (fun m h => by cases h) (by kernel_rfl) (by decide)
  have a5 : ∀ w : World, (Instr.typeAssert (.iface 147 (.slice (some ⟨g, 0, none⟩) s.size c)) 20 144 true).run Tryz.prog w = .ok (.tuple #[.bool false, .bool false]) w := fun w => asto_no (z := .bool false) Tryz.underlying144 (fun m h => by cases h) (by kernel_rfl) (by decide)
  have a6 : ∀ w : World, (Instr.typeAssert (.iface 147 (.slice (some ⟨g, 0, none⟩) s.size c)) 20 147 true).run Tryz.prog w = .ok (.tuple #[.slice (some ⟨g, 0, none⟩) s.size c, .bool true]) w := fun w => asto_yes (z := .slice none 0 0) Tryz.underlying147 (fun m h => by cases h) (by kernel_rfl)
  have hcx : ∀ wx : World, wx.heap[g]? = some (.cells (bytesRow s c) 5 fr) → (convert 147 9 (.slice (some ⟨g, 0, none⟩) s.size c)).run Tryz.prog wx = .ok (.string s) wx := fun wx hx => by
    have := run_convert_bytes_back (P := Tryz.prog) wx 147 9 5 ⟨g, 0, none⟩ c s.data.toList Tryz.underlying147 Tryz.underlying5 Tryz.underlying9 (fun j hj => by
      have hj' : j < s.data.size := by simpa using hj
      have := bytesRow_at s c j hj'
      have ea : (⟨g, 0, none⟩ : Addr).add j = ⟨g, j, none⟩ := by by_cases h0 : j = 0 <;> simp [Addr.add, h0]
      rw [ea]
      simp [World.cell?, hx, this])
    simpa using this
  have hgl : g < w.heap.size := (Array.getElem?_eq_some_iff.1 hh).1
  have hcv := hcx (zD w) (((below1 w _).block g hgl).trans hh)
  unfold zD at hcv
  clear hcx
  go_enter Tryz.func82, Tryz.ntmps82
  go_wp2
  refine bodyPost_ret (v := .agg #[.int .i64 7, .int .i64 0, .int .u64 0, .string s, .slice none 0 0]) (by simp [results, Tryz.results82, go_sem]) rfl ⟨rfl, ?_⟩
  first | exact below1 w _ | exact below2 w _ _

set_option maxRecDepth 100000 in
set_option maxHeartbeats 2000000 in
theorem plNo (w : World) : Calls Tryz.prog 93 #[.pointer none] w fun e w' => e = .returned (.agg #[.int .i64 12, .int .i64 0, .int .u64 0, .string ⟨#[]⟩, .slice none 0 0]) ∧ Below w.heap.size w w' := by
  have hen : ∀ w, (binOp .eql 155 (.pointer none) (.pointer none)).run Tryz.prog w = .ok (.bool true) w := fun _ => by kernel_rfl
  go_enter Tryz.func93, Tryz.ntmps93
  go_wp2
  refine bodyPost_ret (v := .agg #[.int .i64 12, .int .i64 0, .int .u64 0, .string ⟨#[]⟩, .slice none 0 0]) (by simp [results, Tryz.results93, go_sem]) rfl ⟨rfl, ?_⟩
  first | exact below1 w _ | exact below2 w _ _

set_option maxRecDepth 100000 in
set_option maxHeartbeats 2000000 in
theorem plPt (p : Option Addr) (w : World) (R : Value → World → Prop) (hR : ∀ v w' w'', R v w' → (∀ q, w.heap.size < q → w''.heap[q]? = w'.heap[q]?) → w''.heap.size = w'.heap.size → R v w'')
    (HP : Calls Tryz.prog 93 #[.pointer p] (zD w) fun e w' => ∃ (k i b : Int) (s : ByteArray) (a : Option Addr) (n c : Nat), e = .returned (.agg #[.int .i64 k, .int .i64 i, .int .u64 b, .string s, .slice a n c]) ∧ R (.agg #[.int .i64 k, .int .i64 i, .int .u64 b, .string s, .slice a n c]) w' ∧ Below (zD w).heap.size (zD w) w') :
    Calls Tryz.prog 82 #[.iface 155 (.pointer p)] w fun e w' => ∃ v, e = .returned v ∧ R v w' ∧ Below w.heap.size w w' := by
  have a0 : ∀ w : World, (Instr.typeAssert (.iface 155 (.pointer p)) 20 140 true).run Tryz.prog w = .ok (.tuple #[.int .i64 0, .bool false]) w := fun w => asto_no (z := .int .i64 0) Tryz.underlying140 (fun m h => by cases h) (by kernel_rfl) (by decide)
  have a1 : ∀ w : World, (Instr.typeAssert (.iface 155 (.pointer p)) 20 141 true).run Tryz.prog w = .ok (.tuple #[.int .i64 0, .bool false]) w := fun w => asto_no (z := .int .i64 0) Tryz.underlying141 (fun m h => by cases h) (by kernel_rfl) (by decide)
  have a2 : ∀ w : World, (Instr.typeAssert (.iface 155 (.pointer p)) 20 142 true).run Tryz.prog w = .ok (.tuple #[.float .f64 0, .bool false]) w := fun w => asto_no (z := .float .f64 0) Tryz.underlying142 (fun m h => by cases h) (by kernel_rfl) (by decide)
  have a3 : ∀ w : World, (Instr.typeAssert (.iface 155 (.pointer p)) 20 101 true).run Tryz.prog w = .ok (.tuple #[.string ⟨#[]⟩, .bool false]) w := fun w => asto_no (z := .string ⟨#[]⟩) Tryz.underlying101 (fun m h => by cases h) (by kernel_rfl) (by decide)
  have a4 : ∀ w : World, (Instr.typeAssert (.iface 155 (.pointer p)) 20 143 true).run Tryz.prog w = .ok (.tuple #[.string ⟨#[]⟩, .bool false]) w := fun w => asto_no (z := .string ⟨#[]⟩) Tryz.underlying143 (fun m h => by cases h) (by kernel_rfl) (by decide)
  have a5 : ∀ w : World, (Instr.typeAssert (.iface 155 (.pointer p)) 20 144 true).run Tryz.prog w = .ok (.tuple #[.bool false, .bool false]) w := fun w => asto_no (z := .bool false) Tryz.underlying144 (fun m h => by cases h) (by kernel_rfl) (by decide)
  have a6 : ∀ w : World, (Instr.typeAssert (.iface 155 (.pointer p)) 20 147 true).run Tryz.prog w = .ok (.tuple #[.slice none 0 0, .bool false]) w := fun w => asto_no (z := .slice none 0 0) Tryz.underlying147 (fun m h => by cases h) (by kernel_rfl) (by decide)
  have a7 : ∀ w : World, (Instr.typeAssert (.iface 155 (.pointer p)) 20 149 true).run Tryz.prog w = .ok (.tuple #[.slice none 0 0, .bool false]) w := fun w => asto_no (z := .slice none 0 0) Tryz.underlying149 (fun m h => by cases h) (by kernel_rfl) (by decide)
  have a8 : ∀ w : World, (Instr.typeAssert (.iface 155 (.pointer p)) 20 152 true).run Tryz.prog w = .ok (.tuple #[.agg #[.nilIface, .nilIface], .bool false]) w := fun w => asto_no (z := .agg #[.nilIface, .nilIface]) Tryz.underlying152 (fun m h => by cases h) (by kernel_rfl) (by decide)
  have a9 : ∀ w : World, (Instr.typeAssert (.iface 155 (.pointer p)) 20 154 true).run Tryz.prog w = .ok (.tuple #[.agg #[.int .i64 0, .string ⟨#[]⟩], .bool false]) w := fun w => asto_no (z := .agg #[.int .i64 0, .string ⟨#[]⟩]) Tryz.underlying154 (fun m h => by cases h) (by kernel_rfl) (by decide)
  have a10 : ∀ w : World, (Instr.typeAssert (.iface 155 (.pointer p)) 20 155 true).run Tryz.prog w = .ok (.tuple #[.pointer p, .bool true]) w := fun w => asto_yes (z := .pointer none) Tryz.underlying155 (fun m h => by cases h) (by kernel_rfl)
  have HT := Lib.hid HP
  have HR := Lib.hid hR
  clear HP hR
  go_enter Tryz.func82, Tryz.ntmps82
  go_wp2_with fail
  refine HT.out.mono ?_
  rintro e w1 ⟨k, i, b, s, a, n, c, rfl, r, b1⟩
  have d1 := (D5.new w (.int .i64 0) (.int .i64 0) (.int .u64 0) (.string ⟨#[]⟩) (.slice none 0 0)).below b1
  obtain ⟨c0, c1, c2, c3, c4⟩ := d1.c
  have fz : ∀ o, w1.frozen? ⟨w.heap.size, o, none⟩ = false := fun o => d1.f
  have B := (below1 w _).trans (b1.mono (by simp [zD]))
  have r := Lib.hid r
  go_wp2
  refine bodyPost_ret (v := .agg #[.int .i64 k, .int .i64 i, .int .u64 b, .string s, .slice a n c]) (by simp [results, Tryz.results82, go_sem, World.cell?_setCell_same, World.cell?_setCell_other, c0, c1, c2, c3, c4]) rfl ⟨_, rfl, HR.out _ _ _ r.out (fun q hq => ?_) (by simp [World.setCell]), ?_⟩
  · have hq : q ≠ w.heap.size := by omega
    rw [Below.heap_setCell _ _ _ q hq, Below.heap_setCell _ _ _ q hq, Below.heap_setCell _ _ _ q hq, Below.heap_setCell _ _ _ q hq, Below.heap_setCell _ _ _ q hq]
  · exact ((((B.setCell (Nat.le_refl _) _).setCell (Nat.le_refl _) _).setCell (Nat.le_refl _) _).setCell (Nat.le_refl _) _).setCell (Nat.le_refl _) _

set_option maxRecDepth 100000 in
set_option maxHeartbeats 2000000 in
theorem pl8 (a : Option Addr) (n c : Nat) (w : World) (R : Value → World → Prop) (hR : ∀ v w' w'', R v w' → (∀ q, w.heap.size < q → w''.heap[q]? = w'.heap[q]?) → w''.heap.size = w'.heap.size → R v w'')
    (HP : Calls Tryz.prog 92 #[.slice a n c] (zD w) fun e w' => ∃ (g c' : Nat), e = .returned (.slice (some ⟨g, 0, none⟩) n c') ∧ R (.slice (some ⟨g, 0, none⟩) n c') w' ∧ Below (zD w).heap.size (zD w) w') :
    Calls Tryz.prog 82 #[.iface 149 (.slice a n c)] w fun e w' => ∃ v, e = .returned (.agg #[.int .i64 8, .int .i64 0, .int .u64 0, .string ⟨#[]⟩, v]) ∧ R v w' ∧ Below w.heap.size w w' := by
  have a0 : ∀ w : World, (Instr.typeAssert (.iface 149 (.slice a n c)) 20 140 true).run Tryz.prog w = .ok (.tuple #[.int .i64 0, .bool false]) w := fun w => asto_no (z := .int .i64 0) Tryz.underlying140 (fun m h => by cases h) (by kernel_rfl) (by decide)
  have a1 : ∀ w : World, (Instr.typeAssert (.iface 149 (.slice a n c)) 20 141 true).run Tryz.prog w = .ok (.tuple #[.int .i64 0, .bool false]) w := fun w => asto_no (z := .int .i64 0) Tryz.underlying141 (fun m h => by cases h) (by kernel_rfl) (by decide)
  have a2 : ∀ w : World, (Instr.typeAssert (.iface 149 (.slice a n c)) 20 142 true).run Tryz.prog w = .ok (.tuple #[.float .f64 0, .bool false]) w := fun w => asto_no (z := .float .f64 0) Tryz.underlying142 (fun m h => by cases h) (by kernel_rfl) (by decide)
  have a3 : ∀ w : World, (Instr.typeAssert (.iface 149 (.slice a n c)) 20 101 true).run Tryz.prog w = .ok (.tuple #[.string ⟨#[]⟩, .bool false]) w := fun w => asto_no (z := .string ⟨#[]⟩) Tryz.underlying101 (fun m h => by cases h) (by kernel_rfl) (by decide)
  have a4 : ∀ w : World, (Instr.typeAssert (.iface 149 (.slice a n c)) 20 143 true).run Tryz.prog w = .ok (.tuple #[.string ⟨#[]⟩, .bool false]) w := fun w => asto_no (z := .string ⟨#[]⟩) Tryz.underlying143 (fun m h => by cases h) (by kernel_rfl) (by decide)
  have a5 : ∀ w : World, (Instr.typeAssert (.iface 149 (.slice a n c)) 20 144 true).run Tryz.prog w = .ok (.tuple #[.bool false, .bool false]) w := fun w => asto_no (z := .bool false) Tryz.underlying144 (fun m h => by cases h) (by kernel_rfl) (by decide)
  have a6 : ∀ w : World, (Instr.typeAssert (.iface 149 (.slice a n c)) 20 147 true).run Tryz.prog w = .ok (.tuple #[.slice none 0 0, .bool false]) w := fun w => asto_no (z := .slice none 0 0) Tryz.underlying147 (fun m h => by cases h) (by kernel_rfl) (by decide)
  have a7 : ∀ w : World, (Instr.typeAssert (.iface 149 (.slice a n c)) 20 149 true).run Tryz.prog w = .ok (.tuple #[.slice a n c, .bool true]) w := fun w => asto_yes (z := .slice none 0 0) Tryz.underlying149 (fun m h => by cases h) (by kernel_rfl)
  have HT := Lib.hid HP
  have HR := Lib.hid hR
  clear HP hR
  go_enter Tryz.func82, Tryz.ntmps82
  go_wp2_with fail
  refine HT.out.mono ?_
  rintro e w1 ⟨g, c', rfl, r, b1⟩
  have d1 := (D5.new w (.int .i64 0) (.int .i64 0) (.int .u64 0) (.string ⟨#[]⟩) (.slice none 0 0)).below b1
  obtain ⟨c0, c1, c2, c3, c4⟩ := d1.c
  have fz : ∀ o, w1.frozen? ⟨w.heap.size, o, none⟩ = false := fun o => d1.f
  have B := (below1 w _).trans (b1.mono (by simp [zD]))
  have r := Lib.hid r
  go_wp2
  refine bodyPost_ret (v := .agg #[.int .i64 8, .int .i64 0, .int .u64 0, .string ⟨#[]⟩, .slice (some ⟨g, 0, none⟩) n c']) (by simp [results, Tryz.results82, go_sem, World.cell?_setCell_same, World.cell?_setCell_other, c0, c1, c2, c3, c4]) rfl ⟨_, rfl, HR.out _ _ _ r.out (fun q hq => ?_) (by simp [World.setCell]), ?_⟩
  · have hq : q ≠ w.heap.size := by omega
    rw [Below.heap_setCell _ _ _ q hq, Below.heap_setCell _ _ _ q hq, Below.heap_setCell _ _ _ q hq, Below.heap_setCell _ _ _ q hq, Below.heap_setCell _ _ _ q hq]
  · exact ((((B.setCell (Nat.le_refl _) _).setCell (Nat.le_refl _) _).setCell (Nat.le_refl _) _).setCell (Nat.le_refl _) _).setCell (Nat.le_refl _) _
end Go.Proofs.YtajagjcfmaggiaaGreatDoor.Dt
