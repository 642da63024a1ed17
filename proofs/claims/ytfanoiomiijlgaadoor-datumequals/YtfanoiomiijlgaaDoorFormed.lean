/- The package's Valid at the value that this package's own check reads; the conditions: the table of fields as the text lays it, the value's list in memory. -/
import Derived.Test.YtfanoiomiijlgaaDoorParse
namespace Go.Proofs.YtfanoiomiijlgaaDoor
open Go.RowKit

/-- The table's cells that are asked. -/
def Tab (w : World) : Prop := 1 < w.heap.size ∧ w.cell? ⟨1, 1, none⟩ = some (.int .u8 1) ∧ w.cell? ⟨1, 4, none⟩ = some (.int .u8 4) ∧ w.cell? ⟨1, 8, none⟩ = some (.int .u8 8)

theorem Tab.below {w w' : World} (h : Tab w) (hb : Below w.heap.size w w') : Tab w' := by
  obtain ⟨h0, h1, h2, h3⟩ := h
  exact ⟨Nat.lt_of_lt_of_le h0 hb.size, (hb.cell (p := ⟨1, 1, none⟩) h0).trans h1, (hb.cell (p := ⟨1, 4, none⟩) h0).trans h2, (hb.cell (p := ⟨1, 8, none⟩) h0).trans h3⟩

set_option maxRecDepth 100000 in
set_option maxHeartbeats 1000000 in
theorem wf_int (w : World) (h : Tab w) : Calls Tryd.prog 24 #[.agg #[.int .i64 1, .int .i64 1, .int .u64 0, .string ⟨#[]⟩, .slice none 0 0]] w fun e w' => e = .returned (.bool true) ∧ Below w.heap.size w w' := by
  obtain ⟨h0, h1, h2, h3⟩ := h
  have m1 : ∀ o1 o2 : Obj, ((w.alloc o1).alloc o2).cell? ⟨1, 1, none⟩ = some (.int .u8 1) := fun o1 o2 => (Below.cell (((Below.refl w.heap.size w).alloc (Nat.le_refl _) o1).alloc (by simp) o2) (p := ⟨1, 1, none⟩) h0).trans (by assumption)
  have b1 : bits BinOp.and IntKind.u8 1 1 = 1 := by kernel_rfl
  clear h1 h2 h3
  go_enter Tryd.func24, Tryd.ntmps24
  go_wp2
  go_ret
  exact ⟨rfl, ((Below.refl _ w).alloc (Nat.le_refl _) _).alloc (by simp) _⟩

set_option maxRecDepth 100000 in
set_option maxHeartbeats 1000000 in
theorem wf_text (w : World) (h : Tab w) : Calls Tryd.prog 24 #[.agg #[.int .i64 4, .int .i64 0, .int .u64 0, .string ⟨#[97]⟩, .slice none 0 0]] w fun e w' => e = .returned (.bool true) ∧ Below w.heap.size w w' := by
  obtain ⟨h0, h1, h2, h3⟩ := h
  have m1 : ∀ o1 o2 : Obj, ((w.alloc o1).alloc o2).cell? ⟨1, 4, none⟩ = some (.int .u8 4) := fun o1 o2 => (Below.cell (((Below.refl w.heap.size w).alloc (Nat.le_refl _) o1).alloc (by simp) o2) (p := ⟨1, 4, none⟩) h0).trans (by assumption)
  have b1 : bits BinOp.and IntKind.u8 4 4 = 4 := by kernel_rfl
  clear h1 h2 h3
  go_enter Tryd.func24, Tryd.ntmps24
  go_wp2
  go_ret
  exact ⟨rfl, ((Below.refl _ w).alloc (Nat.le_refl _) _).alloc (by simp) _⟩

set_option maxRecDepth 100000 in
set_option maxHeartbeats 1000000 in
theorem wf_list (ad : Option Addr) (cap : Nat) (w : World) (h : Tab w) : Calls Tryd.prog 24 #[.agg #[.int .i64 8, .int .i64 0, .int .u64 0, .string ⟨#[]⟩, .slice ad 2 cap]] w fun e w' => e = .returned (.bool true) ∧ Below w.heap.size w w' := by
  obtain ⟨h0, h1, h2, h3⟩ := h
  have m1 : ∀ o1 o2 : Obj, ((w.alloc o1).alloc o2).cell? ⟨1, 8, none⟩ = some (.int .u8 8) := fun o1 o2 => (Below.cell (((Below.refl w.heap.size w).alloc (Nat.le_refl _) o1).alloc (by simp) o2) (p := ⟨1, 8, none⟩) h0).trans (by assumption)
  have b1 : bits BinOp.and IntKind.u8 8 8 = 8 := by kernel_rfl
  clear h1 h2 h3
  go_enter Tryd.func24, Tryd.ntmps24
  go_wp2
  go_ret
  exact ⟨rfl, ((Below.refl _ w).alloc (Nat.le_refl _) _).alloc (by simp) _⟩
end Go.Proofs.YtfanoiomiijlgaaDoor
