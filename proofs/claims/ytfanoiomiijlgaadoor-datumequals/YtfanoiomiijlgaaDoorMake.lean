/- What the package's inner value makes of the value that this package's own check reads: an interface value that holds a row of two interface values in new memory; each theorem names its conditions. -/
import Derived.Test.YtfanoiomiijlgaaDoorPutList
namespace Go.Proofs.YtfanoiomiijlgaaDoor
open Go.RowKit

set_option maxRecDepth 100000 in
set_option maxHeartbeats 1000000 in
theorem mkOne (w : World) : Calls Tryd.prog 21 #[.agg #[.map none], .agg #[.int .i64 1, .int .i64 1, .int .u64 0, .string ⟨#[]⟩, .slice none 0 0]] w fun e w' => e = .returned (.iface 56 (.int .i64 1)) ∧ Below w.heap.size w w' := by
  go_enter Tryd.func21, Tryd.ntmps21
  go_wp2
  go_ret
  exact ⟨rfl, ((Below.refl _ w).alloc (Nat.le_refl _) _).alloc (by simp) _⟩

set_option maxRecDepth 100000 in
set_option maxHeartbeats 1000000 in
theorem mkA (w : World) : Calls Tryd.prog 21 #[.agg #[.map none], .agg #[.int .i64 4, .int .i64 0, .int .u64 0, .string ⟨#[97]⟩, .slice none 0 0]] w fun e w' => e = .returned (.iface 59 (.string ⟨#[97]⟩)) ∧ Below w.heap.size w w' := by
  go_enter Tryd.func21, Tryd.ntmps21
  go_wp2
  go_ret
  exact ⟨rfl, ((Below.refl _ w).alloc (Nat.le_refl _) _).alloc (by simp) _⟩

set_option maxRecDepth 100000 in
set_option maxHeartbeats 1000000 in
theorem mkRow8 (g cap base : Nat) (w : World) (own : w.ownsRow base 25 5 (.slice (some ⟨g, 0, none⟩) 2 cap) 2 cells8) (hg : g < w.heap.size) :
    Calls Tryd.prog 28 #[.agg #[.map none], .slice (some ⟨g, 0, none⟩) 2 cap] w fun e w' => ∃ r, e = .returned (.slice (some ⟨r, 0, none⟩) 2 2) ∧ w.heap.size ≤ r ∧ r < w'.heap.size ∧ w'.cell? ⟨r, 0, none⟩ = some (.iface 56 (.int .i64 1)) ∧ w'.cell? ⟨r, 1, none⟩ = some (.iface 59 (.string ⟨#[97]⟩)) ∧ Below w.heap.size w w' := by
  have hmk : ∀ w : World, (Instr.makeSlice 64 (.int .i64 2) (.int .i64 2)).run Tryd.prog w = .ok (.slice (some ⟨w.heap.size, 0, none⟩) 2 2) (w.alloc (.cells #[.nilIface, .nilIface] 20)) := fun _ => by kernel_rfl
  obtain ⟨⟨e0, e1, e2, e3, e4⟩, -⟩ := row8_cells own
  go_enter Tryd.func28, Tryd.ntmps28
  go_wp2_with fail
  refine wp_loop_rounds 3 ?_
  rw [rounds_succ]
  go_wp2_with fail
  have b0 : Below w.heap.size w (((w.alloc (.cells #[.map none] 45)).alloc (.cells #[.nilIface, .nilIface] 20)).alloc (.cells #[.int .i64 1, .int .i64 1, .int .u64 0, .string ⟨#[]⟩, .slice none 0 0] 25)) := (((Below.refl _ w).alloc (Nat.le_refl _) _).alloc (by simp) _).alloc (by simp; omega) _
  have m0 : (((w.alloc (.cells #[.map none] 45)).alloc (.cells #[.nilIface, .nilIface] 20)).alloc (.cells #[.int .i64 1, .int .i64 1, .int .u64 0, .string ⟨#[]⟩, .slice none 0 0] 25)).heap[w.heap.size]? = some (.cells #[.map none] 45 (0, 0)) := by
    rw [Below.heap_alloc _ _ _ (by simp; omega), Below.heap_alloc _ _ _ (by simp)]; exact heap_alloc_new w _
  have r0 : (((w.alloc (.cells #[.map none] 45)).alloc (.cells #[.nilIface, .nilIface] 20)).alloc (.cells #[.int .i64 1, .int .i64 1, .int .u64 0, .string ⟨#[]⟩, .slice none 0 0] 25)).heap[w.heap.size + 1]? = some (.cells #[.nilIface, .nilIface] 20 (0, 0)) := by
    rw [Below.heap_alloc _ _ _ (by simp)]
    have := heap_alloc_new (w.alloc (.cells #[.map none] 45)) (.cells #[.nilIface, .nilIface] 20)
    rw [World.size_alloc] at this
    exact this
  refine (mkOne _).mono ?_
  rintro e w1 ⟨rfl, b1⟩
  have m1 := (b1.block w.heap.size (by simp; omega)).trans m0
  have r1 := (b1.block (w.heap.size + 1) (by simp)).trans r0
  have B1 : Below w.heap.size w w1 := b0.trans (b1.mono (by simp; omega))
  have z1 : w.heap.size + 2 < w1.heap.size := by have := b1.size; simp at this; omega
  have z2 : w.heap.size < w1.heap.size := by omega
  have z3 : w.heap.size + 1 < w1.heap.size := by omega
  have x0 : w1.cell? ⟨w.heap.size + 1, 0, none⟩ = some .nilIface := by simp [World.cell?, r1]
  have y0 : w1.frozen? ⟨w.heap.size + 1, 0, none⟩ = false := by simp [World.frozen?, r1]
  have own1 := own.kept (grown_below (row := none) B1) (.inr (by simp [Value.ownBlock]))
  have mm : w1.cell? ⟨w.heap.size, 0, none⟩ = some (.map none) := by simp [World.cell?, m1]
  clear b0 m0 r0 e0 e1 e2 e3 e4 b1 own
  obtain ⟨-, e0, e1, e2, e3, e4⟩ := row8_cells own1
  have HR1 := Lib.hid r1
  have HM1 := Lib.hid m1
  clear r1 m1
  go_wp2_with fail
  rw [rounds_succ]
  go_wp2_with fail
  have r2 : ((w1.setCell ⟨w.heap.size + 1, 0, none⟩ (.iface 56 (.int .i64 1))).alloc (.cells #[.int .i64 4, .int .i64 0, .int .u64 0, .string ⟨#[97]⟩, .slice none 0 0] 25)).heap[w.heap.size + 1]? = some (.cells #[.iface 56 (.int .i64 1), .nilIface] 20 (0, 0)) := by
    rw [Below.heap_alloc _ _ _ (by rw [size_setCell']; omega)]
    simp [World.setCell, Array.getElem?_modify, HR1.out]
  have b2 : Below w.heap.size w ((w1.setCell ⟨w.heap.size + 1, 0, none⟩ (.iface 56 (.int .i64 1))).alloc (.cells #[.int .i64 4, .int .i64 0, .int .u64 0, .string ⟨#[97]⟩, .slice none 0 0] 25)) := (B1.setCell (p := ⟨w.heap.size + 1, 0, none⟩) (by show w.heap.size ≤ w.heap.size + 1; omega) _).alloc (by rw [size_setCell']; omega) _
  have s2 : w.heap.size + 2 < ((w1.setCell ⟨w.heap.size + 1, 0, none⟩ (.iface 56 (.int .i64 1))).alloc (.cells #[.int .i64 4, .int .i64 0, .int .u64 0, .string ⟨#[97]⟩, .slice none 0 0] 25)).heap.size := by rw [World.size_alloc, size_setCell']; omega
  refine (mkA _).mono ?_
  rintro e w3 ⟨rfl, b3⟩
  have r3 := (b3.block (w.heap.size + 1) (by omega)).trans r2
  have B3 : Below w.heap.size w w3 := b2.trans (b3.mono (by omega))
  have t3 : w.heap.size + 1 < w3.heap.size := by have := b3.size; omega
  have x1 : w3.cell? ⟨w.heap.size + 1, 1, none⟩ = some .nilIface := by simp [World.cell?, r3]
  have y1 : w3.frozen? ⟨w.heap.size + 1, 1, none⟩ = false := by simp [World.frozen?, r3]
  have HR3 := Lib.hid r3
  clear r2 b2 s2 b3 r3 B1 own1 e0 e1 e2 e3 e4 x0 y0 mm z1 z2 z3
  go_wp2_with fail
  rw [rounds_succ]
  go_wp2
  go_ret
  have rr : (w3.setCell ⟨w.heap.size + 1, 1, none⟩ (.iface 59 (.string ⟨#[97]⟩))).heap[w.heap.size + 1]? = some (.cells #[.iface 56 (.int .i64 1), .iface 59 (.string ⟨#[97]⟩)] 20 (0, 0)) := by
    simp [World.setCell, Array.getElem?_modify, HR3.out]
  refine ⟨w.heap.size + 1, rfl, by omega, by rw [size_setCell']; omega, ?_, ?_, B3.setCell (p := ⟨w.heap.size + 1, 1, none⟩) (by show w.heap.size ≤ w.heap.size + 1; omega) _⟩
  · simp [World.cell?, rr]
  · simp [World.cell?, rr]
end Go.Proofs.YtfanoiomiijlgaaDoor
