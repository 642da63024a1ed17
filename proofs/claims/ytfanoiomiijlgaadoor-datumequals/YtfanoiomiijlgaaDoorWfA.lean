/- What the package's inner look at one part answers at the kinds 0 to 6: the document's table's answer; the condition: the table of fields as the text lays it. -/
import Derived.Test.YtfanoiomiijlgaaDoorCount
namespace Go.Proofs.YtfanoiomiijlgaaDoor
open Go.RowKit

theorem ret_b {a b : Bool} (h : a = b) : Ending.returned (.bool a) = .returned (.bool b) := by rw [h]
theorem nil_size (s : ByteArray) : s.toList = [] ↔ s.size = 0 := by
  rw [ByteArray.toList_eq, ← List.length_eq_zero_iff, Array.length_toList]; exact Iff.rfl

/-- The table of fields, whatever is done from block B on. -/
def Tab14 (w : World) : Prop := 1 < w.heap.size ∧ ∀ j, j < 14 → w.cell? ⟨1, j, none⟩ = some (.int .u8 (([0, 1, 1, 2, 4, 4, 1, 4, 8, 8, 5, 9, 0, 0] : List Int).getD j 0))

theorem tab2 {w : World} (h : Tab14 w) (j : Nat) (hj : j < 14) (o1 o2 : Obj) : ((w.alloc o1).alloc o2).cell? ⟨1, j, none⟩ = some (.int .u8 (([0, 1, 1, 2, 4, 4, 1, 4, 8, 8, 5, 9, 0, 0] : List Int).getD j 0)) :=
  (Below.cell (((Below.refl w.heap.size w).alloc (Nat.le_refl _) o1).alloc (by simp) o2) (p := ⟨1, j, none⟩) h.1).trans (h.2 j hj)

set_option maxRecDepth 100000 in
set_option maxHeartbeats 1000000 in
theorem formed0 (i u : Int) (s : ByteArray) (ad : Option Addr) (len cap : Nat) (w : World) (h : Tab14 w) (_hs : s.size ≤ maxLen) (_hl : len ≤ maxLen) :
    Calls Tryd.prog 24 #[.agg #[.int .i64 0, .int .i64 i, .int .u64 u, .string s, .slice ad len cap]] w fun e w' => e = .returned (.bool (okB 0 i u s.size len)) ∧ Below w.heap.size w w' := by
  have m1 : ∀ o1 o2 : Obj, ((w.alloc o1).alloc o2).cell? ⟨1, 0, none⟩ = some (.int .u8 0) := tab2 h 0 (by decide)
  have b1 : bits BinOp.and IntKind.u8 0 1 = 0 := by kernel_rfl
  have b2 : bits BinOp.and IntKind.u8 0 2 = 0 := by kernel_rfl
  have b3 : bits BinOp.and IntKind.u8 0 4 = 0 := by kernel_rfl
  have b4 : bits BinOp.and IntKind.u8 0 8 = 0 := by kernel_rfl
  unfold maxLen at _hs _hl
  clear h
  go_enter Tryd.func24, Tryd.ntmps24
  go_wp2
  all_goals go_ret
  all_goals refine ⟨ret_b ?_, ((Below.refl _ w).alloc (Nat.le_refl _) _).alloc (by simp) _⟩
  all_goals clear m1 b1 b2 b3 b4
  all_goals have hz := nil_size s
  all_goals generalize s.toList = L at *
  all_goals generalize s.size = z at *
  all_goals (simp_all [okB] <;> first | omega | (rw [Bool.eq_iff_iff]; simp; omega))
set_option maxRecDepth 100000 in
set_option maxHeartbeats 1000000 in
theorem formed1 (i u : Int) (s : ByteArray) (ad : Option Addr) (len cap : Nat) (w : World) (h : Tab14 w) (_hs : s.size ≤ maxLen) (_hl : len ≤ maxLen) :
    Calls Tryd.prog 24 #[.agg #[.int .i64 1, .int .i64 i, .int .u64 u, .string s, .slice ad len cap]] w fun e w' => e = .returned (.bool (okB 1 i u s.size len)) ∧ Below w.heap.size w w' := by
  have m1 : ∀ o1 o2 : Obj, ((w.alloc o1).alloc o2).cell? ⟨1, 1, none⟩ = some (.int .u8 1) := tab2 h 1 (by decide)
  have b1 : bits BinOp.and IntKind.u8 1 1 = 1 := by kernel_rfl
  have b2 : bits BinOp.and IntKind.u8 1 2 = 0 := by kernel_rfl
  have b3 : bits BinOp.and IntKind.u8 1 4 = 0 := by kernel_rfl
  have b4 : bits BinOp.and IntKind.u8 1 8 = 0 := by kernel_rfl
  unfold maxLen at _hs _hl
  clear h
  go_enter Tryd.func24, Tryd.ntmps24
  go_wp2
  all_goals go_ret
  all_goals refine ⟨ret_b ?_, ((Below.refl _ w).alloc (Nat.le_refl _) _).alloc (by simp) _⟩
  all_goals clear m1 b1 b2 b3 b4
  all_goals have hz := nil_size s
  all_goals generalize s.toList = L at *
  all_goals generalize s.size = z at *
  all_goals (simp_all [okB] <;> first | omega | (rw [Bool.eq_iff_iff]; simp; omega))
set_option maxRecDepth 100000 in
set_option maxHeartbeats 1000000 in
theorem formed2 (i u : Int) (s : ByteArray) (ad : Option Addr) (len cap : Nat) (w : World) (h : Tab14 w) (_hs : s.size ≤ maxLen) (_hl : len ≤ maxLen) :
    Calls Tryd.prog 24 #[.agg #[.int .i64 2, .int .i64 i, .int .u64 u, .string s, .slice ad len cap]] w fun e w' => e = .returned (.bool (okB 2 i u s.size len)) ∧ Below w.heap.size w w' := by
  have m1 : ∀ o1 o2 : Obj, ((w.alloc o1).alloc o2).cell? ⟨1, 2, none⟩ = some (.int .u8 1) := tab2 h 2 (by decide)
  have b1 : bits BinOp.and IntKind.u8 1 1 = 1 := by kernel_rfl
  have b2 : bits BinOp.and IntKind.u8 1 2 = 0 := by kernel_rfl
  have b3 : bits BinOp.and IntKind.u8 1 4 = 0 := by kernel_rfl
  have b4 : bits BinOp.and IntKind.u8 1 8 = 0 := by kernel_rfl
  unfold maxLen at _hs _hl
  clear h
  go_enter Tryd.func24, Tryd.ntmps24
  go_wp2
  all_goals go_ret
  all_goals refine ⟨ret_b ?_, ((Below.refl _ w).alloc (Nat.le_refl _) _).alloc (by simp) _⟩
  all_goals clear m1 b1 b2 b3 b4
  all_goals have hz := nil_size s
  all_goals generalize s.toList = L at *
  all_goals generalize s.size = z at *
  all_goals (simp_all [okB] <;> first | omega | (rw [Bool.eq_iff_iff]; simp; omega))
set_option maxRecDepth 100000 in
set_option maxHeartbeats 1000000 in
theorem formed3 (i u : Int) (s : ByteArray) (ad : Option Addr) (len cap : Nat) (w : World) (h : Tab14 w) (_hs : s.size ≤ maxLen) (_hl : len ≤ maxLen) :
    Calls Tryd.prog 24 #[.agg #[.int .i64 3, .int .i64 i, .int .u64 u, .string s, .slice ad len cap]] w fun e w' => e = .returned (.bool (okB 3 i u s.size len)) ∧ Below w.heap.size w w' := by
  have m1 : ∀ o1 o2 : Obj, ((w.alloc o1).alloc o2).cell? ⟨1, 3, none⟩ = some (.int .u8 2) := tab2 h 3 (by decide)
  have b1 : bits BinOp.and IntKind.u8 2 1 = 0 := by kernel_rfl
  have b2 : bits BinOp.and IntKind.u8 2 2 = 2 := by kernel_rfl
  have b3 : bits BinOp.and IntKind.u8 2 4 = 0 := by kernel_rfl
  have b4 : bits BinOp.and IntKind.u8 2 8 = 0 := by kernel_rfl
  unfold maxLen at _hs _hl
  clear h
  go_enter Tryd.func24, Tryd.ntmps24
  go_wp2
  all_goals go_ret
  all_goals refine ⟨ret_b ?_, ((Below.refl _ w).alloc (Nat.le_refl _) _).alloc (by simp) _⟩
  all_goals clear m1 b1 b2 b3 b4
  all_goals have hz := nil_size s
  all_goals generalize s.toList = L at *
  all_goals generalize s.size = z at *
  all_goals (simp_all [okB] <;> first | omega | (rw [Bool.eq_iff_iff]; simp; omega))
set_option maxRecDepth 100000 in
set_option maxHeartbeats 1000000 in
theorem formed4 (i u : Int) (s : ByteArray) (ad : Option Addr) (len cap : Nat) (w : World) (h : Tab14 w) (_hs : s.size ≤ maxLen) (_hl : len ≤ maxLen) :
    Calls Tryd.prog 24 #[.agg #[.int .i64 4, .int .i64 i, .int .u64 u, .string s, .slice ad len cap]] w fun e w' => e = .returned (.bool (okB 4 i u s.size len)) ∧ Below w.heap.size w w' := by
  have m1 : ∀ o1 o2 : Obj, ((w.alloc o1).alloc o2).cell? ⟨1, 4, none⟩ = some (.int .u8 4) := tab2 h 4 (by decide)
  have b1 : bits BinOp.and IntKind.u8 4 1 = 0 := by kernel_rfl
  have b2 : bits BinOp.and IntKind.u8 4 2 = 0 := by kernel_rfl
  have b3 : bits BinOp.and IntKind.u8 4 4 = 4 := by kernel_rfl
  have b4 : bits BinOp.and IntKind.u8 4 8 = 0 := by kernel_rfl
  unfold maxLen at _hs _hl
  clear h
  go_enter Tryd.func24, Tryd.ntmps24
  go_wp2
  all_goals go_ret
  all_goals refine ⟨ret_b ?_, ((Below.refl _ w).alloc (Nat.le_refl _) _).alloc (by simp) _⟩
  all_goals clear m1 b1 b2 b3 b4
  all_goals have hz := nil_size s
  all_goals generalize s.toList = L at *
  all_goals generalize s.size = z at *
  all_goals (simp_all [okB] <;> first | omega | (rw [Bool.eq_iff_iff]; simp; omega))
set_option maxRecDepth 100000 in
set_option maxHeartbeats 1000000 in
theorem formed5 (i u : Int) (s : ByteArray) (ad : Option Addr) (len cap : Nat) (w : World) (h : Tab14 w) (_hs : s.size ≤ maxLen) (_hl : len ≤ maxLen) :
    Calls Tryd.prog 24 #[.agg #[.int .i64 5, .int .i64 i, .int .u64 u, .string s, .slice ad len cap]] w fun e w' => e = .returned (.bool (okB 5 i u s.size len)) ∧ Below w.heap.size w w' := by
  have m1 : ∀ o1 o2 : Obj, ((w.alloc o1).alloc o2).cell? ⟨1, 5, none⟩ = some (.int .u8 4) := tab2 h 5 (by decide)
  have b1 : bits BinOp.and IntKind.u8 4 1 = 0 := by kernel_rfl
  have b2 : bits BinOp.and IntKind.u8 4 2 = 0 := by kernel_rfl
  have b3 : bits BinOp.and IntKind.u8 4 4 = 4 := by kernel_rfl
  have b4 : bits BinOp.and IntKind.u8 4 8 = 0 := by kernel_rfl
  unfold maxLen at _hs _hl
  clear h
  go_enter Tryd.func24, Tryd.ntmps24
  go_wp2
  all_goals go_ret
  all_goals refine ⟨ret_b ?_, ((Below.refl _ w).alloc (Nat.le_refl _) _).alloc (by simp) _⟩
  all_goals clear m1 b1 b2 b3 b4
  all_goals have hz := nil_size s
  all_goals generalize s.toList = L at *
  all_goals generalize s.size = z at *
  all_goals (simp_all [okB] <;> first | omega | (rw [Bool.eq_iff_iff]; simp; omega))
set_option maxRecDepth 100000 in
set_option maxHeartbeats 1000000 in
theorem formed6 (i u : Int) (s : ByteArray) (ad : Option Addr) (len cap : Nat) (w : World) (h : Tab14 w) (_hs : s.size ≤ maxLen) (_hl : len ≤ maxLen) :
    Calls Tryd.prog 24 #[.agg #[.int .i64 6, .int .i64 i, .int .u64 u, .string s, .slice ad len cap]] w fun e w' => e = .returned (.bool (okB 6 i u s.size len)) ∧ Below w.heap.size w w' := by
  have m1 : ∀ o1 o2 : Obj, ((w.alloc o1).alloc o2).cell? ⟨1, 6, none⟩ = some (.int .u8 1) := tab2 h 6 (by decide)
  have b1 : bits BinOp.and IntKind.u8 1 1 = 1 := by kernel_rfl
  have b2 : bits BinOp.and IntKind.u8 1 2 = 0 := by kernel_rfl
  have b3 : bits BinOp.and IntKind.u8 1 4 = 0 := by kernel_rfl
  have b4 : bits BinOp.and IntKind.u8 1 8 = 0 := by kernel_rfl
  unfold maxLen at _hs _hl
  clear h
  go_enter Tryd.func24, Tryd.ntmps24
  go_wp2
  all_goals go_ret
  all_goals refine ⟨ret_b ?_, ((Below.refl _ w).alloc (Nat.le_refl _) _).alloc (by simp) _⟩
  all_goals clear m1 b1 b2 b3 b4
  all_goals have hz := nil_size s
  all_goals generalize s.toList = L at *
  all_goals generalize s.size = z at *
  all_goals (simp_all [okB] <;> first | omega | (rw [Bool.eq_iff_iff]; simp; omega))
end Go.Proofs.YtfanoiomiijlgaaDoor
