/- What the package's inner look at one part answers at the kinds 0 to 6: the document's table's answer; the condition: the table of fields as the text lays it. -/
import Derived.Test.YtajagjcfmaggiaaGreatDoorKBab
import Derived.Test.YtajagjcfmaggiaaGreatDoorKBac
import Derived.Test.YtajagjcfmaggiaaGreatDoorKBbb
namespace Go.Proofs.YtajagjcfmaggiaaGreatDoor.Dt
open Go.RowKit



/-- The table of fields, whatever is done from block B on. -/
def Tab14 (w : World) : Prop := 4 < w.heap.size ∧ ∀ j, j < 14 → w.cell? ⟨4, j, none⟩ = some (.int .u8 (([0, 1, 1, 2, 4, 4, 1, 4, 8, 8, 5, 9, 0, 0] : List Int).getD j 0))

theorem tab2 {w : World} (h : Tab14 w) (j : Nat) (hj : j < 14) (o1 o2 : Obj) : ((w.alloc o1).alloc o2).cell? ⟨4, j, none⟩ = some (.int .u8 (([0, 1, 1, 2, 4, 4, 1, 4, 8, 8, 5, 9, 0, 0] : List Int).getD j 0)) :=
  (Below.cell (((Below.refl w.heap.size w).alloc (Nat.le_refl _) o1).alloc (by simp) o2) (p := ⟨4, j, none⟩) h.1).trans (h.2 j hj)

set_option maxRecDepth 100000 in
set_option maxHeartbeats 1000000 in
theorem formed0 (i u : Int) (s : ByteArray) (ad : Option Addr) (len cap : Nat) (w : World) (h : Tab14 w) (_hs : s.size ≤ maxLen) (_hl : len ≤ maxLen) :
    Calls Tryz.prog 128 #[.agg #[.int .i64 0, .int .i64 i, .int .u64 u, .string s, .slice ad len cap]] w fun e w' => e = .returned (.bool (okB 0 i u s.size len)) ∧ Below w.heap.size w w' := by
  have m1 : ∀ o1 o2 : Obj, ((w.alloc o1).alloc o2).cell? ⟨4, 0, none⟩ = some (.int .u8 0) := tab2 h 0 (by decide)
  have b1 : bits BinOp.and IntKind.u8 0 1 = 0 := by kernel_rfl
  have b2 : bits BinOp.and IntKind.u8 0 2 = 0 := by kernel_rfl
  have b3 : bits BinOp.and IntKind.u8 0 4 = 0 := by kernel_rfl
  have b4 : bits BinOp.and IntKind.u8 0 8 = 0 := by kernel_rfl
  unfold maxLen at _hs _hl
  clear h
  go_enter Tryz.func128, Tryz.ntmps128
  go_wp2
  all_goals go_ret
  all_goals refine ⟨ret_b ?_, ((Below.refl _ w).alloc (Nat.le_refl _) _).alloc (by simp) _⟩
  all_goals clear m1 b1 b2 b3 b4
  all_goals have hz := nil_size s
  all_goals generalize s.toList = L at *
  all_goals generalize s.size = z at *
  all_goals (simp_all [okB] <;> first | omega | (rw [Bool.eq_iff_iff]; simp; omega))
set_option maxRecDepth 100000 in
set_option maxHeartbeats 1000000 in
theorem formed1 (i u : Int) (s : ByteArray) (ad : Option Addr) (len cap : Nat) (w : World) (h : Tab14 w) (_hs : s.size ≤ maxLen) (_hl : len ≤ maxLen) :
    Calls Tryz.prog 128 #[.agg #[.int .i64 1, .int .i64 i, .int .u64 u, .string s, .slice ad len cap]] w fun e w' => e = .returned (.bool (okB 1 i u s.size len)) ∧ Below w.heap.size w w' := by
  have m1 : ∀ o1 o2 : Obj, ((w.alloc o1).alloc o2).cell? ⟨4, 1, none⟩ = some (.int .u8 1) := tab2 h 1 (by decide)
  have b1 : bits BinOp.and IntKind.u8 1 1 = 1 := by kernel_rfl
  have b2 : bits BinOp.and IntKind.u8 1 2 = 0 := by kernel_rfl
  have b3 : bits BinOp.and IntKind.u8 1 4 = 0 := by kernel_rfl
  have b4 : bits BinOp.and IntKind.u8 1 8 = 0 := by kernel_rfl
  unfold maxLen at _hs _hl
  clear h
  go_enter Tryz.func128, Tryz.ntmps128
  go_wp2
  all_goals go_ret
  all_goals refine ⟨ret_b ?_, ((Below.refl _ w).alloc (Nat.le_refl _) _).alloc (by simp) _⟩
  all_goals clear m1 b1 b2 b3 b4
  all_goals have hz := nil_size s
  all_goals generalize s.toList = L at *
  all_goals generalize s.size = z at *
  all_goals (simp_all [okB] <;> first | omega | (rw [Bool.eq_iff_iff]; simp; omega))
set_option maxRecDepth 100000 in
set_option maxHeartbeats 1000000 in
theorem formed2 (i u : Int) (s : ByteArray) (ad : Option Addr) (len cap : Nat) (w : World) (h : Tab14 w) (_hs : s.size ≤ maxLen) (_hl : len ≤ maxLen) :
    Calls Tryz.prog 128 #[.agg #[.int .i64 2, .int .i64 i, .int .u64 u, .string s, .slice ad len cap]] w fun e w' => e = .returned (.bool (okB 2 i u s.size len)) ∧ Below w.heap.size w w' := by
  have m1 : ∀ o1 o2 : Obj, ((w.alloc o1).alloc o2).cell? ⟨4, 2, none⟩ = some (.int .u8 1) := tab2 h 2 (by decide)
  have b1 : bits BinOp.and IntKind.u8 1 1 = 1 := by kernel_rfl
  have b2 : bits BinOp.and IntKind.u8 1 2 = 0 := by kernel_rfl
  have b3 : bits BinOp.and IntKind.u8 1 4 = 0 := by kernel_rfl
  have b4 : bits BinOp.and IntKind.u8 1 8 = 0 := by kernel_rfl
  unfold maxLen at _hs _hl
  clear h
  go_enter Tryz.func128, Tryz.ntmps128
  go_wp2
  all_goals go_ret
  all_goals refine ⟨ret_b ?_, ((Below.refl _ w).alloc (Nat.le_refl _) _).alloc (by simp) _⟩
  all_goals clear m1 b1 b2 b3 b4
  all_goals have hz := nil_size s
  all_goals generalize s.toList = L at *
  all_goals generalize s.size = z at *
  all_goals (simp_all [okB] <;> first | omega | (rw [Bool.eq_iff_iff]; simp; omega))
set_option maxRecDepth 100000 in
set_option maxHeartbeats 1000000 in
theorem formed3 (i u : Int) (s : ByteArray) (ad : Option Addr) (len cap : Nat) (w : World) (h : Tab14 w) (_hs : s.size ≤ maxLen) (_hl : len ≤ maxLen) :
    Calls Tryz.prog 128 #[.agg #[.int .i64 3, .int .i64 i, .int .u64 u, .string s, .slice ad len cap]] w fun e w' => e = .returned (.bool (okB 3 i u s.size len)) ∧ Below w.heap.size w w' := by
  have m1 : ∀ o1 o2 : Obj, ((w.alloc o1).alloc o2).cell? ⟨4, 3, none⟩ = some (.int .u8 2) := tab2 h 3 (by decide)
  have b1 : bits BinOp.and IntKind.u8 2 1 = 0 := by kernel_rfl
  have b2 : bits BinOp.and IntKind.u8 2 2 = 2 := by kernel_rfl
  have b3 : bits BinOp.and IntKind.u8 2 4 = 0 := by kernel_rfl
  have b4 : bits BinOp.and IntKind.u8 2 8 = 0 := by kernel_rfl
  unfold maxLen at _hs _hl
  clear h
  go_enter Tryz.func128, Tryz.ntmps128
  go_wp2
  all_goals go_ret
  all_goals refine ⟨ret_b ?_, ((Below.refl _ w).alloc (Nat.le_refl _) _).alloc (by simp) _⟩
  all_goals clear m1 b1 b2 b3 b4
  all_goals have hz := nil_size s
  all_goals generalize s.toList = L at *
  all_goals generalize s.size = z at *
  all_goals (simp_all [okB] <;> first | omega | (rw [Bool.eq_iff_iff]; simp; omega))
set_option maxRecDepth 100000 in
set_option maxHeartbeats 1000000 in
theorem formed4 (i u : Int) (s : ByteArray) (ad : Option Addr) (len cap : Nat) (w : World) (h : Tab14 w) (_hs : s.size ≤ maxLen) (_hl : len ≤ maxLen) :
    Calls Tryz.prog 128 #[.agg #[.int .i64 4, .int .i64 i, .int .u64 u, .string s, .slice ad len cap]] w fun e w' => e = .returned (.bool (okB 4 i u s.size len)) ∧ Below w.heap.size w w' := by
  have m1 : ∀ o1 o2 : Obj, ((w.alloc o1).alloc o2).cell? ⟨4, 4, none⟩ = some (.int .u8 4) := tab2 h 4 (by decide)
  have b1 : bits BinOp.and IntKind.u8 4 1 = 0 := by kernel_rfl
  have b2 : bits BinOp.and IntKind.u8 4 2 = 0 := by kernel_rfl
  have b3 : bits BinOp.and IntKind.u8 4 4 = 4 := by kernel_rfl
  have b4 : bits BinOp.and IntKind.u8 4 8 = 0 := by kernel_rfl
  unfold maxLen at _hs _hl
  clear h
  go_enter Tryz.func128, Tryz.ntmps128
  go_wp2
  all_goals go_ret
  all_goals refine ⟨ret_b ?_, ((Below.refl _ w).alloc (Nat.le_refl _) _).alloc (by simp) _⟩
  all_goals clear m1 b1 b2 b3 b4
  all_goals have hz := nil_size s
  all_goals generalize s.toList = L at *
  all_goals generalize s.size = z at *
  all_goals (simp_all [okB] <;> first | omega | (rw [Bool.eq_iff_iff]; simp; omega))
set_option maxRecDepth 100000 in
set_option maxHeartbeats 1000000 in
theorem formed5 (i u : Int) (s : ByteArray) (ad : Option Addr) (len cap : Nat) (w : World) (h : Tab14 w) (_hs : s.size ≤ maxLen) (_hl : len ≤ maxLen) :
    Calls Tryz.prog 128 #[.agg #[.int .i64 5, .int .i64 i, .int .u64 u, .string s, .slice ad len cap]] w fun e w' => e = .returned (.bool (okB 5 i u s.size len)) ∧ Below w.heap.size w w' := by
  have m1 : ∀ o1 o2 : Obj, ((w.alloc o1).alloc o2).cell? ⟨4, 5, none⟩ = some (.int .u8 4) := tab2 h 5 (by decide)
  have b1 : bits BinOp.and IntKind.u8 4 1 = 0 := by kernel_rfl
  have b2 : bits BinOp.and IntKind.u8 4 2 = 0 := by kernel_rfl
  have b3 : bits BinOp.and IntKind.u8 4 4 = 4 := by kernel_rfl
  have b4 : bits BinOp.and IntKind.u8 4 8 = 0 := by kernel_rfl
  unfold maxLen at _hs _hl
  clear h
  go_enter Tryz.func128, Tryz.ntmps128
  go_wp2
  all_goals go_ret
  all_goals refine ⟨ret_b ?_, ((Below.refl _ w).alloc (Nat.le_refl _) _).alloc (by simp) _⟩
  all_goals clear m1 b1 b2 b3 b4
  all_goals have hz := nil_size s
  all_goals generalize s.toList = L at *
  all_goals generalize s.size = z at *
  all_goals (simp_all [okB] <;> first | omega | (rw [Bool.eq_iff_iff]; simp; omega))
set_option maxRecDepth 100000 in
set_option maxHeartbeats 1000000 in
theorem formed6 (i u : Int) (s : ByteArray) (ad : Option Addr) (len cap : Nat) (w : World) (h : Tab14 w) (_hs : s.size ≤ maxLen) (_hl : len ≤ maxLen) :
    Calls Tryz.prog 128 #[.agg #[.int .i64 6, .int .i64 i, .int .u64 u, .string s, .slice ad len cap]] w fun e w' => e = .returned (.bool (okB 6 i u s.size len)) ∧ Below w.heap.size w w' := by
  have m1 : ∀ o1 o2 : Obj, ((w.alloc o1).alloc o2).cell? ⟨4, 6, none⟩ = some (.int .u8 1) := tab2 h 6 (by decide)
  have b1 : bits BinOp.and IntKind.u8 1 1 = 1 := by kernel_rfl
  have b2 : bits BinOp.and IntKind.u8 1 2 = 0 := by kernel_rfl
  have b3 : bits BinOp.and IntKind.u8 1 4 = 0 := by kernel_rfl
  have b4 : bits BinOp.and IntKind.u8 1 8 = 0 := by kernel_rfl
  unfold maxLen at _hs _hl
  clear h
  go_enter Tryz.func128, Tryz.ntmps128
  go_wp2
  all_goals go_ret
  all_goals refine ⟨ret_b ?_, ((Below.refl _ w).alloc (Nat.le_refl _) _).alloc (by simp) _⟩
  all_goals clear m1 b1 b2 b3 b4
  all_goals have hz := nil_size s
  all_goals generalize s.toList = L at *
  all_goals generalize s.size = z at *
  all_goals (simp_all [okB] <;> first | omega | (rw [Bool.eq_iff_iff]; simp; omega))
end Go.Proofs.YtajagjcfmaggiaaGreatDoor.Dt
/- What the package's inner look at one part answers at the kinds 7 to 13: the document's table's answer; the condition: the table of fields as the text lays it. -/
namespace Go.Proofs.YtajagjcfmaggiaaGreatDoor.Dt
open Go.RowKit

set_option maxRecDepth 100000 in
set_option maxHeartbeats 1000000 in
theorem formed7 (i u : Int) (s : ByteArray) (ad : Option Addr) (len cap : Nat) (w : World) (h : Tab14 w) (_hs : s.size ≤ maxLen) (_hl : len ≤ maxLen) :
    Calls Tryz.prog 128 #[.agg #[.int .i64 7, .int .i64 i, .int .u64 u, .string s, .slice ad len cap]] w fun e w' => e = .returned (.bool (okB 7 i u s.size len)) ∧ Below w.heap.size w w' := by
  have m1 : ∀ o1 o2 : Obj, ((w.alloc o1).alloc o2).cell? ⟨4, 7, none⟩ = some (.int .u8 4) := tab2 h 7 (by decide)
  have b1 : bits BinOp.and IntKind.u8 4 1 = 0 := by kernel_rfl
  have b2 : bits BinOp.and IntKind.u8 4 2 = 0 := by kernel_rfl
  have b3 : bits BinOp.and IntKind.u8 4 4 = 4 := by kernel_rfl
  have b4 : bits BinOp.and IntKind.u8 4 8 = 0 := by kernel_rfl
  unfold maxLen at _hs _hl
  clear h
  go_enter Tryz.func128, Tryz.ntmps128
  go_wp2
  all_goals go_ret
  all_goals refine ⟨ret_b ?_, ((Below.refl _ w).alloc (Nat.le_refl _) _).alloc (by simp) _⟩
  all_goals clear m1 b1 b2 b3 b4
  all_goals have hz := nil_size s
  all_goals generalize s.toList = L at *
  all_goals generalize s.size = z at *
  all_goals (simp_all [okB] <;> first | omega | (rw [Bool.eq_iff_iff]; simp; omega))
set_option maxRecDepth 100000 in
set_option maxHeartbeats 1000000 in
theorem formed8 (i u : Int) (s : ByteArray) (ad : Option Addr) (len cap : Nat) (w : World) (h : Tab14 w) (_hs : s.size ≤ maxLen) (_hl : len ≤ maxLen) :
    Calls Tryz.prog 128 #[.agg #[.int .i64 8, .int .i64 i, .int .u64 u, .string s, .slice ad len cap]] w fun e w' => e = .returned (.bool (okB 8 i u s.size len)) ∧ Below w.heap.size w w' := by
  have m1 : ∀ o1 o2 : Obj, ((w.alloc o1).alloc o2).cell? ⟨4, 8, none⟩ = some (.int .u8 8) := tab2 h 8 (by decide)
  have b1 : bits BinOp.and IntKind.u8 8 1 = 0 := by kernel_rfl
  have b2 : bits BinOp.and IntKind.u8 8 2 = 0 := by kernel_rfl
  have b3 : bits BinOp.and IntKind.u8 8 4 = 0 := by kernel_rfl
  have b4 : bits BinOp.and IntKind.u8 8 8 = 8 := by kernel_rfl
  unfold maxLen at _hs _hl
  clear h
  go_enter Tryz.func128, Tryz.ntmps128
  go_wp2
  all_goals go_ret
  all_goals refine ⟨ret_b ?_, ((Below.refl _ w).alloc (Nat.le_refl _) _).alloc (by simp) _⟩
  all_goals clear m1 b1 b2 b3 b4
  all_goals have hz := nil_size s
  all_goals generalize s.toList = L at *
  all_goals generalize s.size = z at *
  all_goals (simp_all [okB] <;> first | omega | (rw [Bool.eq_iff_iff]; simp; omega))
set_option maxRecDepth 100000 in
set_option maxHeartbeats 1000000 in
theorem formed9 (i u : Int) (s : ByteArray) (ad : Option Addr) (len cap : Nat) (w : World) (h : Tab14 w) (_hs : s.size ≤ maxLen) (_hl : len ≤ maxLen) :
    Calls Tryz.prog 128 #[.agg #[.int .i64 9, .int .i64 i, .int .u64 u, .string s, .slice ad len cap]] w fun e w' => e = .returned (.bool (okB 9 i u s.size len)) ∧ Below w.heap.size w w' := by
  have m1 : ∀ o1 o2 : Obj, ((w.alloc o1).alloc o2).cell? ⟨4, 9, none⟩ = some (.int .u8 8) := tab2 h 9 (by decide)
  have b1 : bits BinOp.and IntKind.u8 8 1 = 0 := by kernel_rfl
  have b2 : bits BinOp.and IntKind.u8 8 2 = 0 := by kernel_rfl
  have b3 : bits BinOp.and IntKind.u8 8 4 = 0 := by kernel_rfl
  have b4 : bits BinOp.and IntKind.u8 8 8 = 8 := by kernel_rfl
  unfold maxLen at _hs _hl
  clear h
  go_enter Tryz.func128, Tryz.ntmps128
  go_wp2
  all_goals go_ret
  all_goals refine ⟨ret_b ?_, ((Below.refl _ w).alloc (Nat.le_refl _) _).alloc (by simp) _⟩
  all_goals clear m1 b1 b2 b3 b4
  all_goals have hz := nil_size s
  all_goals generalize s.toList = L at *
  all_goals generalize s.size = z at *
  all_goals (simp_all [okB] <;> first | omega | (rw [Bool.eq_iff_iff]; simp; omega))
set_option maxRecDepth 100000 in
set_option maxHeartbeats 1000000 in
theorem formed10 (i u : Int) (s : ByteArray) (ad : Option Addr) (len cap : Nat) (w : World) (h : Tab14 w) (_hs : s.size ≤ maxLen) (_hl : len ≤ maxLen) :
    Calls Tryz.prog 128 #[.agg #[.int .i64 10, .int .i64 i, .int .u64 u, .string s, .slice ad len cap]] w fun e w' => e = .returned (.bool (okB 10 i u s.size len)) ∧ Below w.heap.size w w' := by
  have m1 : ∀ o1 o2 : Obj, ((w.alloc o1).alloc o2).cell? ⟨4, 10, none⟩ = some (.int .u8 5) := tab2 h 10 (by decide)
  have b1 : bits BinOp.and IntKind.u8 5 1 = 1 := by kernel_rfl
  have b2 : bits BinOp.and IntKind.u8 5 2 = 0 := by kernel_rfl
  have b3 : bits BinOp.and IntKind.u8 5 4 = 4 := by kernel_rfl
  have b4 : bits BinOp.and IntKind.u8 5 8 = 0 := by kernel_rfl
  unfold maxLen at _hs _hl
  clear h
  go_enter Tryz.func128, Tryz.ntmps128
  go_wp2
  all_goals go_ret
  all_goals refine ⟨ret_b ?_, ((Below.refl _ w).alloc (Nat.le_refl _) _).alloc (by simp) _⟩
  all_goals clear m1 b1 b2 b3 b4
  all_goals have hz := nil_size s
  all_goals generalize s.toList = L at *
  all_goals generalize s.size = z at *
  all_goals (simp_all [okB] <;> first | omega | (rw [Bool.eq_iff_iff]; simp; omega))
set_option maxRecDepth 100000 in
set_option maxHeartbeats 1000000 in
theorem formed11 (i u : Int) (s : ByteArray) (ad : Option Addr) (len cap : Nat) (w : World) (h : Tab14 w) (_hs : s.size ≤ maxLen) (_hl : len ≤ maxLen) :
    Calls Tryz.prog 128 #[.agg #[.int .i64 11, .int .i64 i, .int .u64 u, .string s, .slice ad len cap]] w fun e w' => e = .returned (.bool (okB 11 i u s.size len)) ∧ Below w.heap.size w w' := by
  have m1 : ∀ o1 o2 : Obj, ((w.alloc o1).alloc o2).cell? ⟨4, 11, none⟩ = some (.int .u8 9) := tab2 h 11 (by decide)
  have b1 : bits BinOp.and IntKind.u8 9 1 = 1 := by kernel_rfl
  have b2 : bits BinOp.and IntKind.u8 9 2 = 0 := by kernel_rfl
  have b3 : bits BinOp.and IntKind.u8 9 4 = 0 := by kernel_rfl
  have b4 : bits BinOp.and IntKind.u8 9 8 = 8 := by kernel_rfl
  unfold maxLen at _hs _hl
  clear h
  go_enter Tryz.func128, Tryz.ntmps128
  go_wp2
  all_goals go_ret
  all_goals refine ⟨ret_b ?_, ((Below.refl _ w).alloc (Nat.le_refl _) _).alloc (by simp) _⟩
  all_goals clear m1 b1 b2 b3 b4
  all_goals have hz := nil_size s
  all_goals generalize s.toList = L at *
  all_goals generalize s.size = z at *
  all_goals (simp_all [okB] <;> first | omega | (rw [Bool.eq_iff_iff]; simp; omega))
set_option maxRecDepth 100000 in
set_option maxHeartbeats 1000000 in
theorem formed12 (i u : Int) (s : ByteArray) (ad : Option Addr) (len cap : Nat) (w : World) (h : Tab14 w) (_hs : s.size ≤ maxLen) (_hl : len ≤ maxLen) :
    Calls Tryz.prog 128 #[.agg #[.int .i64 12, .int .i64 i, .int .u64 u, .string s, .slice ad len cap]] w fun e w' => e = .returned (.bool (okB 12 i u s.size len)) ∧ Below w.heap.size w w' := by
  have m1 : ∀ o1 o2 : Obj, ((w.alloc o1).alloc o2).cell? ⟨4, 12, none⟩ = some (.int .u8 0) := tab2 h 12 (by decide)
  have b1 : bits BinOp.and IntKind.u8 0 1 = 0 := by kernel_rfl
  have b2 : bits BinOp.and IntKind.u8 0 2 = 0 := by kernel_rfl
  have b3 : bits BinOp.and IntKind.u8 0 4 = 0 := by kernel_rfl
  have b4 : bits BinOp.and IntKind.u8 0 8 = 0 := by kernel_rfl
  unfold maxLen at _hs _hl
  clear h
  go_enter Tryz.func128, Tryz.ntmps128
  go_wp2
  all_goals go_ret
  all_goals refine ⟨ret_b ?_, ((Below.refl _ w).alloc (Nat.le_refl _) _).alloc (by simp) _⟩
  all_goals clear m1 b1 b2 b3 b4
  all_goals have hz := nil_size s
  all_goals generalize s.toList = L at *
  all_goals generalize s.size = z at *
  all_goals (simp_all [okB] <;> first | omega | (rw [Bool.eq_iff_iff]; simp; omega))
set_option maxRecDepth 100000 in
set_option maxHeartbeats 1000000 in
theorem formed13 (i u : Int) (s : ByteArray) (ad : Option Addr) (len cap : Nat) (w : World) (h : Tab14 w) (_hs : s.size ≤ maxLen) (_hl : len ≤ maxLen) :
    Calls Tryz.prog 128 #[.agg #[.int .i64 13, .int .i64 i, .int .u64 u, .string s, .slice ad len cap]] w fun e w' => e = .returned (.bool (okB 13 i u s.size len)) ∧ Below w.heap.size w w' := by
  have m1 : ∀ o1 o2 : Obj, ((w.alloc o1).alloc o2).cell? ⟨4, 13, none⟩ = some (.int .u8 0) := tab2 h 13 (by decide)
  have b1 : bits BinOp.and IntKind.u8 0 1 = 0 := by kernel_rfl
  have b2 : bits BinOp.and IntKind.u8 0 2 = 0 := by kernel_rfl
  have b3 : bits BinOp.and IntKind.u8 0 4 = 0 := by kernel_rfl
  have b4 : bits BinOp.and IntKind.u8 0 8 = 0 := by kernel_rfl
  unfold maxLen at _hs _hl
  clear h
  go_enter Tryz.func128, Tryz.ntmps128
  go_wp2
  all_goals go_ret
  all_goals refine ⟨ret_b ?_, ((Below.refl _ w).alloc (Nat.le_refl _) _).alloc (by simp) _⟩
  all_goals clear m1 b1 b2 b3 b4
  all_goals have hz := nil_size s
  all_goals generalize s.toList = L at *
  all_goals generalize s.size = z at *
  all_goals (simp_all [okB] <;> first | omega | (rw [Bool.eq_iff_iff]; simp; omega))

theorem formedNo (k i u : Int) (s : ByteArray) (ad : Option Addr) (len cap : Nat) (w : World) (hk : k < 0 ∨ 13 < k) :
    Calls Tryz.prog 128 #[.agg #[.int .i64 k, .int .i64 i, .int .u64 u, .string s, .slice ad len cap]] w fun e w' => e = .returned (.bool (okB k i u s.size len)) ∧ Below w.heap.size w w' := by
  have ho : okB k i u s.size len = false := by
    have n0 : k ≠ 0 := by omega
    have n1 : k ≠ 1 := by omega
    have n2 : k ≠ 2 := by omega
    have n3 : k ≠ 3 := by omega
    have n4 : k ≠ 4 := by omega
    have n5 : k ≠ 5 := by omega
    have n6 : k ≠ 6 := by omega
    have n7 : k ≠ 7 := by omega
    have n8 : k ≠ 8 := by omega
    have n9 : k ≠ 9 := by omega
    have n10 : k ≠ 10 := by omega
    have n11 : k ≠ 11 := by omega
    have n12 : k ≠ 12 := by omega
    have n13 : k ≠ 13 := by omega
    simp [okB, n0, n1, n2, n3, n4, n5, n6, n7, n8, n9, n10, n11, n12, n13]
  rw [ho]
  clear ho
  rcases hk with hk | hk
  · go_enter Tryz.func128, Tryz.ntmps128
    go_wp2
    go_ret
    exact ⟨rfl, (Below.refl _ w).alloc (Nat.le_refl _) _⟩
  · have hk0 : ¬ k < 0 := by omega
    have hk1 : 14 ≤ k := by omega
    go_enter Tryz.func128, Tryz.ntmps128
    go_wp2
    go_ret
    exact ⟨rfl, (Below.refl _ w).alloc (Nat.le_refl _) _⟩
theorem formed_any (k i u : Int) (s : ByteArray) (ad : Option Addr) (len cap : Nat) (w : World) (h : Tab14 w) (hs : s.size ≤ maxLen) (hl : len ≤ maxLen) :
    Calls Tryz.prog 128 #[.agg #[.int .i64 k, .int .i64 i, .int .u64 u, .string s, .slice ad len cap]] w fun e w' => e = .returned (.bool (okB k i u s.size len)) ∧ Below w.heap.size w w' := by
  by_cases hk : k < 0 ∨ 13 < k
  · exact formedNo k i u s ad len cap w hk
  have hk : k = 0 ∨ k = 1 ∨ k = 2 ∨ k = 3 ∨ k = 4 ∨ k = 5 ∨ k = 6 ∨ k = 7 ∨ k = 8 ∨ k = 9 ∨ k = 10 ∨ k = 11 ∨ k = 12 ∨ k = 13 := by omega
  rcases hk with rfl | rfl | rfl | rfl | rfl | rfl | rfl | rfl | rfl | rfl | rfl | rfl | rfl | rfl
  · exact formed0 i u s ad len cap w h hs hl
  · exact formed1 i u s ad len cap w h hs hl
  · exact formed2 i u s ad len cap w h hs hl
  · exact formed3 i u s ad len cap w h hs hl
  · exact formed4 i u s ad len cap w h hs hl
  · exact formed5 i u s ad len cap w h hs hl
  · exact formed6 i u s ad len cap w h hs hl
  · exact formed7 i u s ad len cap w h hs hl
  · exact formed8 i u s ad len cap w h hs hl
  · exact formed9 i u s ad len cap w h hs hl
  · exact formed10 i u s ad len cap w h hs hl
  · exact formed11 i u s ad len cap w h hs hl
  · exact formed12 i u s ad len cap w h hs hl
  · exact formed13 i u s ad len cap w h hs hl
end Go.Proofs.YtajagjcfmaggiaaGreatDoor.Dt
/- The package's walk that counts down, over a value's tree; the conditions: the tree in memory, the table of fields, the counter in a block of its own. -/
namespace Go.Proofs.YtajagjcfmaggiaaGreatDoor.Dt
open Go.RowKit
theorem Tab14.below {w w' : World} (h : Tab14 w) (hb : Below w.heap.size w w') : Tab14 w' :=
  ⟨Nat.lt_of_lt_of_le h.1 hb.size, fun j hj => (hb.cell (p := ⟨4, j, none⟩) h.1).trans (h.2 j hj)⟩


set_option maxRecDepth 100000 in
set_option maxHeartbeats 2000000 in
/-- Nothing that lay in W0 has turned. -/
theorem dwithin_any (W0 : World) (hT : Tab14 W0) (l : Nat) (hl0 : W0.heap.size ≤ l)
    (f : Nat) : ∀ (n : Nat) (t : Tr n) (v0 v1 v2 v3 v4 : Value) (left : Int) (w : World), Rep W0 n [v0, v1, v2, v3, v4] t → Below W0.heap.size W0 w → Lf w l left → f ≤ 16 → 0 ≤ left → left ≤ 4096 →
    Calls Tryz.prog 111 #[.agg #[v0, v1, v2, v3, v4], .int .i64 f, .pointer (some ⟨l, 0, none⟩)] w fun e w' => e = .returned (.bool (vw f n t left).1) ∧ Lf w' l (vw f n t left).2 ∧ w.grownBy w' (some l) := by
  induction f with
  | zero =>
    intro n t v0 v1 v2 v3 v4 left w h hb hl hf h0 h1
    match n, t, h with
    | n + 1, t, h =>
      obtain ⟨ad, cap, e, -, -, -, -⟩ := h
      simp only [List.cons.injEq, and_true] at e
      obtain ⟨rfl, rfl, rfl, rfl, rfl⟩ := e
      simp only [vw]
      go_enter Tryz.func111, Tryz.ntmps111
      go_wp2
      go_ret
      exact ⟨rfl, hl.below ((Below.refl _ w).alloc (Nat.le_refl _) _), World.grownBy_alloc _ _ _⟩
  | succ f ih =>
    intro n t v0 v1 v2 v3 v4 left w h hb hl hf h0 h1
    match n, t, h with
    | n + 1, t, h =>
      obtain ⟨ad, cap, e, htx, hlen, hcap, hk⟩ := h
      simp only [List.cons.injEq, and_true] at e
      obtain ⟨rfl, rfl, rfl, rfl, rfl⟩ := e
      have HI := Lib.hid ih
      have HK := Lib.hid hk
      clear ih hk
      have hd0 : ((((f + 1 : Nat) : Int)) == 0) = false := by simp; omega
      have hd1 : ((f : Int) + 1 == 0) = false := by simp; omega
      have hll := hl.lt
      have cl := hl.c
      have fl := hl.f
      have b0 : Below w.heap.size w (w.alloc (.cells #[.int .i64 t.kd, .int .i64 t.it, .int .u64 t.ut, .string t.tx, .slice ad t.ks.length cap] 25)) := (Below.refl _ w).alloc (Nat.le_refl _) _
      by_cases hz : left = 0
      · have hv : vw (f + 1) (n + 1) t left = (false, left) := by simp only [vw]; rw [if_pos (Or.inl hz)]
        rw [hv]
        have hz' : (left == 0) = true := by simpa using hz
        clear hv hz
        go_enter Tryz.func111, Tryz.ntmps111
        go_wp2_with fail
        go_ret
        exact ⟨rfl, hl.below b0, grown_below b0⟩
      · have hz' : (left == 0) = false := by simpa using hz
        have hleft : 1 ≤ left := by omega
        have T0 : Tab14 (w.alloc (.cells #[.int .i64 t.kd, .int .i64 t.it, .int .u64 t.ut, .string t.tx, .slice ad t.ks.length cap] 25)) := hT.below (hb.trans (b0.mono hb.size))
        have hmax : t.ks.length ≤ maxLen := Nat.le_trans hlen hcap
        cases ho : t.ok with
        | false =>
          have hv : vw (f + 1) (n + 1) t left = (false, left) := by simp only [vw]; rw [if_pos (Or.inr ho)]
          rw [hv]
          have HO := Lib.hid ho
          clear hv ho hz
          go_enter Tryz.func111, Tryz.ntmps111
          go_wp2_with fail
          refine (formed_any t.kd t.it t.ut t.tx ad t.ks.length cap _ T0 htx hmax).mono ?_
          rintro e w1 ⟨rfl, b1⟩
          rw [show okB t.kd t.it t.ut t.tx.size t.ks.length = false from HO.out]
          go_wp2_with fail
          go_ret
          exact ⟨rfl, (hl.below b0).below b1, grown_trans (grown_below b0) (grown_below b1)⟩
        | true =>
          have hv : vw (f + 1) (n + 1) t left = vwL (fun t l => vw f n t l) t.ks (left - 1) := by simp only [vw]; rw [if_neg (by simp [ho]; exact hz)]
          rw [hv]
          have HO := Lib.hid ho
          generalize hcc : (fun (t : Tr n) l => vw f n t l) = cc
          have HC := Lib.hid hcc
          clear hv ho hz hcc
          go_enter Tryz.func111, Tryz.ntmps111
          go_wp2_with fail
          refine (formed_any t.kd t.it t.ut t.tx ad t.ks.length cap _ T0 htx hmax).mono ?_
          rintro e w1 ⟨rfl, b1⟩
          rw [show okB t.kd t.it t.ut t.tx.size t.ks.length = true from HO.out]
          have l1 := (hl.below b0).below b1
          have c1 := l1.c
          have f1 := l1.f
          have d1 : D5 w1 w.heap.size (.int .i64 t.kd) (.int .i64 t.it) (.int .u64 t.ut) (.string t.tx) (.slice ad t.ks.length cap) := (D5.new w _ _ _ _ _).kept (b := l) (grown_below b1) (by omega)
          have k4 := d1.c.2.2.2.2
          have G1 := grown_trans (grown_below (row := some l) b0) (grown_below b1)
          have B1 : Below W0.heap.size W0 w1 := (hb.trans (b0.mono hb.size)).trans (b1.mono (Nat.le_trans hb.size b0.size))
          have z1 : w.heap.size < w1.heap.size := d1.lt
          clear b0 b1 T0 cl fl
          go_wp2_with fail
          go_loopw [30] (fun si wr => ∃ (j : Nat) (l' : Int), si = .int .i64 j ∧ j ≤ t.ks.length ∧ vwL cc (t.ks.drop j) l' = vwL cc t.ks (left - 1) ∧ 0 ≤ l' ∧ l' ≤ 4096 ∧ Lf wr l l' ∧ Below W0.heap.size W0 wr ∧ w.grownBy wr (some l)) (fun si _ => t.ks.length - (intOf si).toNat)
          case atStart => exact ⟨0, left - 1, rfl, Nat.zero_le _, rfl, by omega, by omega, l1.set _, B1.setCell (p := ⟨l, 0, none⟩) hl0 _, grown_trans G1 (grown_set _ _ _ _)⟩
          case round =>
            obtain ⟨j, l', rfl, hj, hinv, hp0, hp1, hlf, hbr, hgr⟩ := hrel
            have HV := Lib.hid hinv
            clear hinv
            by_cases hlt : j < t.ks.length
            · have hne : t.ks ≠ [] := by intro e; rw [e] at hlt; exact absurd hlt (Nat.not_lt_zero _)
              rcases HK.out with hk | ⟨g, o, hk1, hk2⟩
              · exact absurd hk hne
              subst hk1
              obtain ⟨v0, v1, v2, v3, v4, e0, e1, e2, e3, e4, rk⟩ := hk2 j _ (List.getElem?_eq_getElem hlt)
              have hg : g < W0.heap.size := World.block_lt_of_cell? W0 _ e0
              have x0 := (hbr.cell (p := ⟨g, o + j * 5, none⟩) hg).trans e0
              have x1 := (hbr.cell (p := ⟨g, o + j * 5 + 1, none⟩) hg).trans e1
              have x2 := (hbr.cell (p := ⟨g, o + j * 5 + 2, none⟩) hg).trans e2
              have x3 := (hbr.cell (p := ⟨g, o + j * 5 + 3, none⟩) hg).trans e3
              have x4 := (hbr.cell (p := ⟨g, o + j * 5 + 4, none⟩) hg).trans e4
              clear e0 e1 e2 e3 e4 hk2 HK
              unfold maxLen at hcap
              obtain ⟨u0, u1, u2, u3, a4, n4, c4', rfl, rfl, rfl, rfl, rfl⟩ := rep_shape rk
              go_wp2_with fail
              have ba : Below wr.heap.size wr (wr.alloc (.cells #[.int .i64 u0, .int .i64 u1, .int .u64 u2, .string u3, .slice a4 n4 c4'] 25)) := (Below.refl _ wr).alloc (Nat.le_refl _) _
              refine (HI.out n t.ks[j] _ _ _ _ _ l' _ rk (hbr.trans (ba.mono hbr.size)) (hlf.below ba) (by omega) hp0 hp1).mono ?_
              rintro e w2 ⟨rfl, l2, g2⟩
              have bd := vw_bd f n t.ks[j] l' hp0
              have hv := HV.out
              rw [drop_at t.ks j hlt, vwL_cons, ← HC.out] at hv
              simp only [] at hv
              generalize vw f n t.ks[j] l' = C at bd hv l2
              have b2 : Below W0.heap.size W0 w2 := (hbr.trans (ba.mono hbr.size)).grown g2 (Nat.le_trans hbr.size ba.size) (fun k hk => by have := Option.some.inj hk; omega)
              have G2 : w.grownBy w2 (some l) := grown_trans hgr (grown_trans (grown_below ba) g2)
              obtain ⟨q1, q2⟩ := bd
              cases hb1 : C.1 with
              | true =>
                rw [if_pos hb1, HC.out] at hv
                have HW := Lib.hid hv
                clear hv HV x0 x1 x2 x3 x4 rk ba g2 hb1
                go_wp2_with fail
                refine ⟨⟨j + 1, C.2, by go_num, by omega, HW.out, by omega, by omega, l2, b2, G2⟩, by simp [intOf]; omega⟩
              | false =>
                rw [if_neg (by rw [hb1]; simp), HC.out] at hv
                have HW := Lib.hid hv
                clear hv HV x0 x1 x2 x3 x4 rk ba g2 hb1
                go_wp2_with fail
                go_ret
                exact ⟨by rw [← HW.out]; rfl, by rw [← HW.out]; exact l2, G2⟩
            · have hje : j = t.ks.length := by omega
              have hv := HV.out
              rw [hje, List.drop_length] at hv
              have HW := Lib.hid hv
              clear hv HV
              go_wp2_with fail
              go_ret
              exact ⟨by rw [← HW.out]; rfl, by rw [← HW.out]; exact hlf, hgr⟩
end Go.Proofs.YtajagjcfmaggiaaGreatDoor.Dt
/- The package's Valid at every value in memory; the condition: the table of fields as the text lays it. -/
namespace Go.Proofs.YtajagjcfmaggiaaGreatDoor.Dt
open Go.RowKit


set_option maxRecDepth 100000 in
set_option maxHeartbeats 1000000 in
theorem ownValid (n : Nat) (t : Tr n) (v0 v1 v2 v3 v4 : Value) (w : World) (h : Rep w n [v0, v1, v2, v3, v4] t) (hT : Tab14 w) :
    Calls Tryz.prog 90 #[.agg #[v0, v1, v2, v3, v4]] w fun e w' => e = .returned (.bool (vB n t)) ∧ Below w.heap.size w w' := by
  obtain ⟨u0, u1, u2, u3, a4, n4, c4, rfl, rfl, rfl, rfl, rfl⟩ := rep_shape h
  have b0 : Below w.heap.size w ((w.alloc (.cells #[.int .i64 u0, .int .i64 u1, .int .u64 u2, .string u3, .slice a4 n4 c4] 25)).alloc (.cells #[.int .i64 4096] 3)) := ((Below.refl _ w).alloc (Nat.le_refl _) _).alloc (by simp) _
  have l0 : Lf ((w.alloc (.cells #[.int .i64 u0, .int .i64 u1, .int .u64 u2, .string u3, .slice a4 n4 c4] 25)).alloc (.cells #[.int .i64 4096] 3)) (w.heap.size + 1) 4096 := by
    have := heap_alloc_new (w.alloc (.cells #[.int .i64 u0, .int .i64 u1, .int .u64 u2, .string u3, .slice a4 n4 c4] 25)) (.cells #[.int .i64 4096] 3)
    rw [World.size_alloc] at this
    exact this
  have HC := Lib.hid (dwithin_any w hT (w.heap.size + 1) (Nat.le_succ _) 16 n t _ _ _ _ _ 4096 _ h b0 l0 (by decide) (by decide) (by decide))
  unfold vB
  generalize vw 16 n t 4096 = VV at HC ⊢
  clear h hT
  go_enter Tryz.func90, Tryz.ntmps90
  go_wp2_with fail
  refine HC.out.mono ?_
  rintro e w1 ⟨rfl, -, g1⟩
  have b1 : Below w.heap.size w w1 := b0.grown g1 (by simp; omega) (fun k hk => by have := Option.some.inj hk; omega)
  go_wp2_with fail
  go_ret
  exact ⟨rfl, b1⟩
end Go.Proofs.YtajagjcfmaggiaaGreatDoor.Dt
/- The document's answers by pieces: a result with a value, a panic, an assertion to a kind or to an interface, a box opened, a quotient; the conditions: what their pieces come to. -/
namespace Go.Proofs.YtajagjcfmaggiaaGreatDoor
open Go.RowKit

set_option maxRecDepth 100000 in
set_option maxHeartbeats 1000000 in
theorem rgave_any (k i b : Int) (s : ByteArray) (ad : Option Addr) (len cap : Nat) (w : World) :
    Calls Tryz.prog 25 #[.agg #[.int .i64 k, .int .i64 i, .int .u64 b, .string s, .slice ad len cap]] w fun e w' => e = .returned (.agg (rcs 0 0 0 0 true k i b s ad len cap)) ∧ Below w.heap.size w w' := by
  go_enter Tryz.func25, Tryz.ntmps25
  go_wp2
  exact bodyPost_ret (v := .agg (rcs 0 0 0 0 true k i b s ad len cap)) (by simp [results, Tryz.results25, go_sem]) rfl ⟨rfl, below2 w _ _⟩
set_option maxRecDepth 100000 in
set_option maxHeartbeats 1000000 in
theorem rpan_any (k m : Int) (w : World) :
    Calls Tryz.prog 38 #[.int .i64 k, .int .i64 m] w fun e w' => e = .returned (.agg (rErr 110 0 k m)) ∧ Below w.heap.size w w' := by
  go_enter Tryz.func38, Tryz.ntmps38
  go_wp2
  exact bodyPost_ret (v := .agg (rErr 110 0 k m)) (by simp [results, Tryz.results38, go_sem]) rfl ⟨rfl, below1 w _⟩
set_option maxRecDepth 100000 in
set_option maxHeartbeats 1000000 in
theorem rkind_no (k i b : Int) (s : ByteArray) (ad : Option Addr) (len cap : Nat) (n : Int) (w : World) (g0 : decide (n ≤ 0) = false) (g1 : decide (14 ≤ n) = false)
    (hm : ∀ wx, Below w.heap.size w wx → Calls Tryz.prog 16 #[.agg #[.int .i64 2, .int .i64 n, .slice none 0 0], .agg #[.int .i64 k, .int .i64 i, .int .u64 b, .string s, .slice ad len cap]] wx fun e w' => e = .returned (.bool false) ∧ Below wx.heap.size wx w') :
    Calls Tryz.prog 30 #[.agg #[.int .i64 k, .int .i64 i, .int .u64 b, .string s, .slice ad len cap], .int .i64 n] w fun e w' => e = .returned (.agg (rErr 110 0 2 k)) ∧ Below w.heap.size w w' := by
  have RP := Lib.hid rpan_any
  have HM := Lib.hid hm
  clear hm
  have B0 := below2 w (.cells #[.int .i64 k, .int .i64 i, .int .u64 b, .string s, .slice ad len cap] 25) (.cells (rErr 0 0 0 0) 33)
  have D0 : Bk ((w.alloc (.cells #[.int .i64 k, .int .i64 i, .int .u64 b, .string s, .slice ad len cap] 25)).alloc (.cells (rErr 0 0 0 0) 33)) w.heap.size #[.int .i64 k, .int .i64 i, .int .u64 b, .string s, .slice ad len cap] 25 := (Bk.new w _ _).alloc _
  have R0 := Bk.new2 w (.cells #[.int .i64 k, .int .i64 i, .int .u64 b, .string s, .slice ad len cap] 25) (rErr 0 0 0 0) 33
  go_enter Tryz.func30, Tryz.ntmps30
  go_wp2_with fail
  refine (HM.out _ B0).mono ?_
  rintro e w1 ⟨rfl, b1⟩
  have D1 := D0.step b1
  have RX := R0.step b1
  have BX := B0.trans (b1.mono B0.size)
  clear b1 B0 R0 D0
  obtain ⟨d0, d1, d2, d3, d4⟩ := D1.c5
  go_wp2_with fail
  clear D1 d0 d1 d2 d3 d4
  refine (RP.out 2 k _).mono ?_
  rintro e w2 ⟨rfl, b2⟩
  have r2 := RX.step b2
  have B2 := BX.trans (b2.mono BX.size)
  clear b2 BX RX
  obtain ⟨c0, c1, c2, c3, c4, c5, c6, c7, c8, c9⟩ := r2.c10
  have z2 := r2.f
  go_wp2_with fail
  obtain ⟨k1, k2, k3, k4⟩ := set10 r2 (.int .i64 110) (.int .i64 0) (.int .i64 2) (.int .i64 k) (.bool false) (.int .i64 0) (.int .i64 0) (.int .u64 0) (.string ⟨#[]⟩) (.slice none 0 0) rfl
  have KF := B2.trans (k4.mono (by omega))
  obtain ⟨q0, q1, q2, q3, q4, q5, q6, q7, q8, q9⟩ := k1.c10
  refine bodyPost_ret (v := .agg (rErr 110 0 2 k)) ?_ rfl ⟨rfl, KF⟩
  simp [results, Tryz.results30, go_sem, q0, q1, q2, q3, q4, q5, q6, q7, q8, q9]

set_option maxRecDepth 100000 in
set_option maxHeartbeats 1000000 in
theorem rkind_yes (k i b : Int) (s : ByteArray) (ad : Option Addr) (len cap : Nat) (n : Int) (w : World) (H : Nat) (hH : w.heap.size + 2 ≤ H) (P : BodyP) (hP : St H P) (g0 : decide (n ≤ 0) = false) (g1 : decide (14 ≤ n) = false)
    (hm : ∀ wx, Below w.heap.size w wx → Calls Tryz.prog 16 #[.agg #[.int .i64 2, .int .i64 n, .slice none 0 0], .agg #[.int .i64 k, .int .i64 i, .int .u64 b, .string s, .slice ad len cap]] wx fun e w' => e = .returned (.bool true) ∧ Below wx.heap.size wx w')
    (hC : ∀ wx, Below w.heap.size w wx → w.heap.size + 2 ≤ wx.heap.size → Calls Tryz.prog 9 #[.agg #[.int .i64 k, .int .i64 i, .int .u64 b, .string s, .slice ad len cap]] wx fun e w' => ∃ k i u s a n c, e = .returned (.agg #[.int .i64 k, .int .i64 i, .int .u64 u, .string s, .slice a n c]) ∧ P k i u s a n c w' ∧ Below wx.heap.size wx w') :
    Calls Tryz.prog 30 #[.agg #[.int .i64 k, .int .i64 i, .int .u64 b, .string s, .slice ad len cap], .int .i64 n] w fun e w' => ∃ k i u s a n c, e = .returned (.agg (rcs 0 0 0 0 true k i u s a n c)) ∧ P k i u s a n c w' ∧ Below w.heap.size w w' := by
  have RG := Lib.hid rgave_any
  have HM := Lib.hid hm
  have HC := Lib.hid hC
  have hP' := Lib.hid hP
  clear hm hC hP
  have B0 := below2 w (.cells #[.int .i64 k, .int .i64 i, .int .u64 b, .string s, .slice ad len cap] 25) (.cells (rErr 0 0 0 0) 33)
  have D0 : Bk ((w.alloc (.cells #[.int .i64 k, .int .i64 i, .int .u64 b, .string s, .slice ad len cap] 25)).alloc (.cells (rErr 0 0 0 0) 33)) w.heap.size #[.int .i64 k, .int .i64 i, .int .u64 b, .string s, .slice ad len cap] 25 := (Bk.new w _ _).alloc _
  have R0 := Bk.new2 w (.cells #[.int .i64 k, .int .i64 i, .int .u64 b, .string s, .slice ad len cap] 25) (rErr 0 0 0 0) 33
  go_enter Tryz.func30, Tryz.ntmps30
  go_wp2_with fail
  refine (HM.out _ B0).mono ?_
  rintro e w1 ⟨rfl, b1⟩
  have D1 := D0.step b1
  have RX := R0.step b1
  have BX := B0.trans (b1.mono B0.size)
  have hsX : w.heap.size + 2 ≤ w1.heap.size := by have := b1.size; simpa using this
  clear b1 B0 R0 D0
  obtain ⟨d0, d1, d2, d3, d4⟩ := D1.c5
  go_wp2_with fail
  refine (HC.out _ BX hsX).mono ?_
  rintro e w3 ⟨k', i', u', s', a', n', c', rfl, p3, b3⟩
  have R3 := RX.step b3
  have B3 := BX.trans (b3.mono BX.size)
  have P3 := Lib.hid p3
  clear p3 b3 BX RX D1 d0 d1 d2 d3 d4
  go_wp2_with fail
  refine (RG.out _ _ _ _ _ _ _ _).mono ?_
  rintro e w4 ⟨rfl, b4⟩
  have r2 := R3.step b4
  have B2 := B3.trans (b4.mono B3.size)
  have PP := Lib.hid (hP'.out.below P3.out b4)
  clear b4 B3 R3 P3
  obtain ⟨c0, c1, c2, c3, c4, c5, c6, c7, c8, c9⟩ := r2.c10
  have z2 := r2.f
  go_wp2_with fail
  obtain ⟨k1, k2, k3, k4⟩ := set10 r2 (.int .i64 0) (.int .i64 0) (.int .i64 0) (.int .i64 0) (.bool true) (.int .i64 k') (.int .i64 i') (.int .u64 u') (.string s') (.slice a' n' c') rfl
  have KP := Lib.hid (hP'.out _ _ _ _ _ _ _ _ _ PP.out (Nat.le_of_eq k2.symm) fun g hg _ => k3 g (by omega))
  have KF := B2.trans (k4.mono (by omega))
  obtain ⟨q0, q1, q2, q3, q4, q5, q6, q7, q8, q9⟩ := k1.c10
  refine bodyPost_ret (v := .agg (rcs 0 0 0 0 true k' i' u' s' a' n' c')) ?_ rfl ⟨k', i', u', s', a', n', c', rfl, KP.out, KF⟩
  simp [results, Tryz.results30, go_sem, q0, q1, q2, q3, q4, q5, q6, q7, q8, q9]

set_option maxRecDepth 100000 in
set_option maxHeartbeats 1000000 in
theorem rface_nil (k i b : Int) (s : ByteArray) (ad : Option Addr) (len cap : Nat) (f : Int) (w : World) (hk : k = 0) :
    Calls Tryz.prog 23 #[.agg #[.int .i64 k, .int .i64 i, .int .u64 b, .string s, .slice ad len cap], .int .i64 f] w fun e w' => e = .returned (.agg (rErr 110 0 2 (-1))) ∧ Below w.heap.size w w' := by
  have RP := Lib.hid rpan_any
  subst hk
  have B0 := below2 w (.cells #[.int .i64 0, .int .i64 i, .int .u64 b, .string s, .slice ad len cap] 25) (.cells (rErr 0 0 0 0) 33)
  have D0 : Bk ((w.alloc (.cells #[.int .i64 0, .int .i64 i, .int .u64 b, .string s, .slice ad len cap] 25)).alloc (.cells (rErr 0 0 0 0) 33)) w.heap.size #[.int .i64 0, .int .i64 i, .int .u64 b, .string s, .slice ad len cap] 25 := (Bk.new w _ _).alloc _
  have R0 := Bk.new2 w (.cells #[.int .i64 0, .int .i64 i, .int .u64 b, .string s, .slice ad len cap] 25) (rErr 0 0 0 0) 33
  go_enter Tryz.func23, Tryz.ntmps23
  go_wp2_with fail
  have BX := B0
  have RX := R0
  clear B0 R0 D0
  refine (RP.out 2 (-1) _).mono ?_
  rintro e w2 ⟨rfl, b2⟩
  have r2 := RX.step b2
  have B2 := BX.trans (b2.mono BX.size)
  clear b2 BX RX
  obtain ⟨c0, c1, c2, c3, c4, c5, c6, c7, c8, c9⟩ := r2.c10
  have z2 := r2.f
  go_wp2_with fail
  obtain ⟨k1, k2, k3, k4⟩ := set10 r2 (.int .i64 110) (.int .i64 0) (.int .i64 2) (.int .i64 (-1)) (.bool false) (.int .i64 0) (.int .i64 0) (.int .u64 0) (.string ⟨#[]⟩) (.slice none 0 0) rfl
  have KF := B2.trans (k4.mono (by omega))
  obtain ⟨q0, q1, q2, q3, q4, q5, q6, q7, q8, q9⟩ := k1.c10
  refine bodyPost_ret (v := .agg (rErr 110 0 2 (-1))) ?_ rfl ⟨rfl, KF⟩
  simp [results, Tryz.results23, go_sem, q0, q1, q2, q3, q4, q5, q6, q7, q8, q9]

set_option maxRecDepth 100000 in
set_option maxHeartbeats 1000000 in
theorem rface_lo (k i b : Int) (s : ByteArray) (ad : Option Addr) (len cap : Nat) (f : Int) (w : World) (hk : (k == 0) = false) (g0 : decide (f < 0) = true) :
    Calls Tryz.prog 23 #[.agg #[.int .i64 k, .int .i64 i, .int .u64 b, .string s, .slice ad len cap], .int .i64 f] w fun e w' => e = .returned (.agg (rErr 110 0 2 (-1))) ∧ Below w.heap.size w w' := by
  have RP := Lib.hid rpan_any
  have B0 := below2 w (.cells #[.int .i64 k, .int .i64 i, .int .u64 b, .string s, .slice ad len cap] 25) (.cells (rErr 0 0 0 0) 33)
  have D0 : Bk ((w.alloc (.cells #[.int .i64 k, .int .i64 i, .int .u64 b, .string s, .slice ad len cap] 25)).alloc (.cells (rErr 0 0 0 0) 33)) w.heap.size #[.int .i64 k, .int .i64 i, .int .u64 b, .string s, .slice ad len cap] 25 := (Bk.new w _ _).alloc _
  have R0 := Bk.new2 w (.cells #[.int .i64 k, .int .i64 i, .int .u64 b, .string s, .slice ad len cap] 25) (rErr 0 0 0 0) 33
  go_enter Tryz.func23, Tryz.ntmps23
  go_wp2_with fail
  have BX := B0
  have RX := R0
  clear B0 R0 D0
  refine (RP.out 2 (-1) _).mono ?_
  rintro e w2 ⟨rfl, b2⟩
  have r2 := RX.step b2
  have B2 := BX.trans (b2.mono BX.size)
  clear b2 BX RX
  obtain ⟨c0, c1, c2, c3, c4, c5, c6, c7, c8, c9⟩ := r2.c10
  have z2 := r2.f
  go_wp2_with fail
  obtain ⟨k1, k2, k3, k4⟩ := set10 r2 (.int .i64 110) (.int .i64 0) (.int .i64 2) (.int .i64 (-1)) (.bool false) (.int .i64 0) (.int .i64 0) (.int .u64 0) (.string ⟨#[]⟩) (.slice none 0 0) rfl
  have KF := B2.trans (k4.mono (by omega))
  obtain ⟨q0, q1, q2, q3, q4, q5, q6, q7, q8, q9⟩ := k1.c10
  refine bodyPost_ret (v := .agg (rErr 110 0 2 (-1))) ?_ rfl ⟨rfl, KF⟩
  simp [results, Tryz.results23, go_sem, q0, q1, q2, q3, q4, q5, q6, q7, q8, q9]

set_option maxRecDepth 100000 in
set_option maxHeartbeats 1000000 in
theorem rface_hi (k i b : Int) (s : ByteArray) (ad : Option Addr) (len cap : Nat) (f : Int) (w : World) (hk : (k == 0) = false) (g0 : decide (f < 0) = false) (g1 : decide (10 ≤ f) = true) :
    Calls Tryz.prog 23 #[.agg #[.int .i64 k, .int .i64 i, .int .u64 b, .string s, .slice ad len cap], .int .i64 f] w fun e w' => e = .returned (.agg (rErr 110 0 2 (-1))) ∧ Below w.heap.size w w' := by
  have RP := Lib.hid rpan_any
  have B0 := below2 w (.cells #[.int .i64 k, .int .i64 i, .int .u64 b, .string s, .slice ad len cap] 25) (.cells (rErr 0 0 0 0) 33)
  have D0 : Bk ((w.alloc (.cells #[.int .i64 k, .int .i64 i, .int .u64 b, .string s, .slice ad len cap] 25)).alloc (.cells (rErr 0 0 0 0) 33)) w.heap.size #[.int .i64 k, .int .i64 i, .int .u64 b, .string s, .slice ad len cap] 25 := (Bk.new w _ _).alloc _
  have R0 := Bk.new2 w (.cells #[.int .i64 k, .int .i64 i, .int .u64 b, .string s, .slice ad len cap] 25) (rErr 0 0 0 0) 33
  go_enter Tryz.func23, Tryz.ntmps23
  go_wp2_with fail
  have BX := B0
  have RX := R0
  clear B0 R0 D0
  refine (RP.out 2 (-1) _).mono ?_
  rintro e w2 ⟨rfl, b2⟩
  have r2 := RX.step b2
  have B2 := BX.trans (b2.mono BX.size)
  clear b2 BX RX
  obtain ⟨c0, c1, c2, c3, c4, c5, c6, c7, c8, c9⟩ := r2.c10
  have z2 := r2.f
  go_wp2_with fail
  obtain ⟨k1, k2, k3, k4⟩ := set10 r2 (.int .i64 110) (.int .i64 0) (.int .i64 2) (.int .i64 (-1)) (.bool false) (.int .i64 0) (.int .i64 0) (.int .u64 0) (.string ⟨#[]⟩) (.slice none 0 0) rfl
  have KF := B2.trans (k4.mono (by omega))
  obtain ⟨q0, q1, q2, q3, q4, q5, q6, q7, q8, q9⟩ := k1.c10
  refine bodyPost_ret (v := .agg (rErr 110 0 2 (-1))) ?_ rfl ⟨rfl, KF⟩
  simp [results, Tryz.results23, go_sem, q0, q1, q2, q3, q4, q5, q6, q7, q8, q9]

set_option maxRecDepth 100000 in
set_option maxHeartbeats 1000000 in
theorem rface_no (k i b : Int) (s : ByteArray) (ad : Option Addr) (len cap : Nat) (f : Int) (w : World) (hk : (k == 0) = false) (g0 : decide (f < 0) = false) (g1 : decide (10 ≤ f) = false) (L : Int) (hL : lacks k f = L) (hl : decide (0 ≤ L) = true) :
    Calls Tryz.prog 23 #[.agg #[.int .i64 k, .int .i64 i, .int .u64 b, .string s, .slice ad len cap], .int .i64 f] w fun e w' => e = .returned (.agg (rErr 110 0 2 L)) ∧ Below w.heap.size w w' := by
  have RP := Lib.hid rpan_any
  have HL : Hid (∀ w, Calls Tryz.prog 39 #[.int .i64 k, .int .i64 f] w fun e w' => e = .returned (.int .i64 L) ∧ Below w.heap.size w w') := fun w => hL ▸ lacks_any k f w
  clear hL
  have B0 := below2 w (.cells #[.int .i64 k, .int .i64 i, .int .u64 b, .string s, .slice ad len cap] 25) (.cells (rErr 0 0 0 0) 33)
  have D0 : Bk ((w.alloc (.cells #[.int .i64 k, .int .i64 i, .int .u64 b, .string s, .slice ad len cap] 25)).alloc (.cells (rErr 0 0 0 0) 33)) w.heap.size #[.int .i64 k, .int .i64 i, .int .u64 b, .string s, .slice ad len cap] 25 := (Bk.new w _ _).alloc _
  have R0 := Bk.new2 w (.cells #[.int .i64 k, .int .i64 i, .int .u64 b, .string s, .slice ad len cap] 25) (rErr 0 0 0 0) 33
  go_enter Tryz.func23, Tryz.ntmps23
  go_wp2_with fail
  refine (HL.out _).mono ?_
  rintro e w1 ⟨rfl, b1⟩
  have D1 := D0.step b1
  have RX := R0.step b1
  have BX := B0.trans (b1.mono B0.size)
  clear b1 B0 R0 D0
  obtain ⟨d0, d1, d2, d3, d4⟩ := D1.c5
  go_wp2_with fail
  clear D1 d0 d1 d2 d3 d4
  refine (RP.out 2 L _).mono ?_
  rintro e w2 ⟨rfl, b2⟩
  have r2 := RX.step b2
  have B2 := BX.trans (b2.mono BX.size)
  clear b2 BX RX
  obtain ⟨c0, c1, c2, c3, c4, c5, c6, c7, c8, c9⟩ := r2.c10
  have z2 := r2.f
  go_wp2_with fail
  obtain ⟨k1, k2, k3, k4⟩ := set10 r2 (.int .i64 110) (.int .i64 0) (.int .i64 2) (.int .i64 L) (.bool false) (.int .i64 0) (.int .i64 0) (.int .u64 0) (.string ⟨#[]⟩) (.slice none 0 0) rfl
  have KF := B2.trans (k4.mono (by omega))
  obtain ⟨q0, q1, q2, q3, q4, q5, q6, q7, q8, q9⟩ := k1.c10
  refine bodyPost_ret (v := .agg (rErr 110 0 2 L)) ?_ rfl ⟨rfl, KF⟩
  simp [results, Tryz.results23, go_sem, q0, q1, q2, q3, q4, q5, q6, q7, q8, q9]

set_option maxRecDepth 100000 in
set_option maxHeartbeats 1000000 in
theorem rface_yes (k i b : Int) (s : ByteArray) (ad : Option Addr) (len cap : Nat) (f : Int) (w : World) (H : Nat) (hH : w.heap.size + 2 ≤ H) (P : BodyP) (hP : St H P) (hk : (k == 0) = false) (g0 : decide (f < 0) = false) (g1 : decide (10 ≤ f) = false) (hL : lacks k f = -1)
    (hC : ∀ wx, Below w.heap.size w wx → w.heap.size + 2 ≤ wx.heap.size → Calls Tryz.prog 9 #[.agg #[.int .i64 k, .int .i64 i, .int .u64 b, .string s, .slice ad len cap]] wx fun e w' => ∃ k i u s a n c, e = .returned (.agg #[.int .i64 k, .int .i64 i, .int .u64 u, .string s, .slice a n c]) ∧ P k i u s a n c w' ∧ Below wx.heap.size wx w') :
    Calls Tryz.prog 23 #[.agg #[.int .i64 k, .int .i64 i, .int .u64 b, .string s, .slice ad len cap], .int .i64 f] w fun e w' => ∃ k i u s a n c, e = .returned (.agg (rcs 0 0 0 0 true k i u s a n c)) ∧ P k i u s a n c w' ∧ Below w.heap.size w w' := by
  have RG := Lib.hid rgave_any
  have HL : Hid (∀ w, Calls Tryz.prog 39 #[.int .i64 k, .int .i64 f] w fun e w' => e = .returned (.int .i64 (-1)) ∧ Below w.heap.size w w') := fun w => hL ▸ lacks_any k f w
  have HC := Lib.hid hC
  have hP' := Lib.hid hP
  clear hC hP hL
  have B0 := below2 w (.cells #[.int .i64 k, .int .i64 i, .int .u64 b, .string s, .slice ad len cap] 25) (.cells (rErr 0 0 0 0) 33)
  have D0 : Bk ((w.alloc (.cells #[.int .i64 k, .int .i64 i, .int .u64 b, .string s, .slice ad len cap] 25)).alloc (.cells (rErr 0 0 0 0) 33)) w.heap.size #[.int .i64 k, .int .i64 i, .int .u64 b, .string s, .slice ad len cap] 25 := (Bk.new w _ _).alloc _
  have R0 := Bk.new2 w (.cells #[.int .i64 k, .int .i64 i, .int .u64 b, .string s, .slice ad len cap] 25) (rErr 0 0 0 0) 33
  go_enter Tryz.func23, Tryz.ntmps23
  go_wp2_with fail
  refine (HL.out _).mono ?_
  rintro e w1 ⟨rfl, b1⟩
  have D1 := D0.step b1
  have RX := R0.step b1
  have BX := B0.trans (b1.mono B0.size)
  have hsX : w.heap.size + 2 ≤ w1.heap.size := by have := b1.size; simpa using this
  clear b1 B0 R0 D0
  obtain ⟨d0, d1, d2, d3, d4⟩ := D1.c5
  go_wp2_with fail
  refine (HC.out _ BX hsX).mono ?_
  rintro e w3 ⟨k', i', u', s', a', n', c', rfl, p3, b3⟩
  have R3 := RX.step b3
  have B3 := BX.trans (b3.mono BX.size)
  have P3 := Lib.hid p3
  clear p3 b3 BX RX D1 d0 d1 d2 d3 d4
  go_wp2_with fail
  refine (RG.out _ _ _ _ _ _ _ _).mono ?_
  rintro e w4 ⟨rfl, b4⟩
  have r2 := R3.step b4
  have B2 := B3.trans (b4.mono B3.size)
  have PP := Lib.hid (hP'.out.below P3.out b4)
  clear b4 B3 R3 P3
  obtain ⟨c0, c1, c2, c3, c4, c5, c6, c7, c8, c9⟩ := r2.c10
  have z2 := r2.f
  go_wp2_with fail
  obtain ⟨k1, k2, k3, k4⟩ := set10 r2 (.int .i64 0) (.int .i64 0) (.int .i64 0) (.int .i64 0) (.bool true) (.int .i64 k') (.int .i64 i') (.int .u64 u') (.string s') (.slice a' n' c') rfl
  have KP := Lib.hid (hP'.out _ _ _ _ _ _ _ _ _ PP.out (Nat.le_of_eq k2.symm) fun g hg _ => k3 g (by omega))
  have KF := B2.trans (k4.mono (by omega))
  obtain ⟨q0, q1, q2, q3, q4, q5, q6, q7, q8, q9⟩ := k1.c10
  refine bodyPost_ret (v := .agg (rcs 0 0 0 0 true k' i' u' s' a' n' c')) ?_ rfl ⟨k', i', u', s', a', n', c', rfl, KP.out, KF⟩
  simp [results, Tryz.results23, go_sem, q0, q1, q2, q3, q4, q5, q6, q7, q8, q9]
end Go.Proofs.YtajagjcfmaggiaaGreatDoor
/- The document's box opened; the conditions: what its pieces come to. -/
namespace Go.Proofs.YtajagjcfmaggiaaGreatDoor
open Go.RowKit

set_option maxRecDepth 100000 in
set_option maxHeartbeats 1000000 in
theorem r1open_nil (i b : Int) (s : ByteArray) (ad : Option Addr) (len cap : Nat) (w : World) :
    Calls Tryz.prog 43 #[.agg #[.int .i64 12, .int .i64 i, .int .u64 b, .string s, .slice ad len cap]] w fun e w' => e = .returned (.tuple #[.agg #[.int .i64 0, .int .i64 0, .int .u64 0, .string ⟨#[]⟩, .slice none 0 0], .int .i64 13]) ∧ Below w.heap.size w w' := by
  have B0 := below2 w (.cells #[.int .i64 12, .int .i64 i, .int .u64 b, .string s, .slice ad len cap] 25) (.cells #[.int .i64 0, .int .i64 0, .int .u64 0, .string ⟨#[]⟩, .slice none 0 0] 25)
  go_enter Tryz.func43, Tryz.ntmps43
  go_wp2_with fail
  exact bodyPost_ret (v := .tuple #[.agg #[.int .i64 0, .int .i64 0, .int .u64 0, .string ⟨#[]⟩, .slice none 0 0], .int .i64 13]) (by simp [results, Tryz.results43, go_sem]) rfl ⟨rfl, by first | exact B0 | exact below2 _ _ _⟩

set_option maxRecDepth 100000 in
set_option maxHeartbeats 1000000 in
theorem r1open_box (i b : Int) (s : ByteArray) (g o len cap : Nat) (hl : 0 < len) (x0 x1 x2 : Int) (x3 : ByteArray) (x4 : Option Addr) (x5 x6 : Nat) (w : World) (H : Nat) (hH : w.heap.size + 2 ≤ H) (P : BodyP) (hP : St H P) (hg : g < w.heap.size)
    (y0 : w.cell? ⟨g, o, none⟩ = some (.int .i64 x0)) (y1 : w.cell? ⟨g, o + 1, none⟩ = some (.int .i64 x1)) (y2 : w.cell? ⟨g, o + 2, none⟩ = some (.int .u64 x2)) (y3 : w.cell? ⟨g, o + 3, none⟩ = some (.string x3)) (y4 : w.cell? ⟨g, o + 4, none⟩ = some (.slice x4 x5 x6))
    (hM : ∀ wx, Below w.heap.size w wx → wx.heap.size = w.heap.size + 2 → Calls Tryz.prog 9 #[.agg #[.int .i64 x0, .int .i64 x1, .int .u64 x2, .string x3, .slice x4 x5 x6]] wx fun e w' => ∃ k i u s a n c, e = .returned (.agg #[.int .i64 k, .int .i64 i, .int .u64 u, .string s, .slice a n c]) ∧ P k i u s a n c w' ∧ Below wx.heap.size wx w') :
    Calls Tryz.prog 43 #[.agg #[.int .i64 11, .int .i64 i, .int .u64 b, .string s, .slice (some ⟨g, o, none⟩) len cap]] w fun e w' => ∃ k i u s a n c, e = .returned (.tuple #[.agg #[.int .i64 k, .int .i64 i, .int .u64 u, .string s, .slice a n c], .int .i64 0]) ∧ P k i u s a n c w' ∧ Below w.heap.size w w' := by
  have HM := Lib.hid hM
  have hP' := Lib.hid hP
  clear hM hP
  have B0 := below2 w (.cells #[.int .i64 11, .int .i64 i, .int .u64 b, .string s, .slice (some ⟨g, o, none⟩) len cap] 25) (.cells #[.int .i64 0, .int .i64 0, .int .u64 0, .string ⟨#[]⟩, .slice none 0 0] 25)
  have R0 := Bk.new2 w (.cells #[.int .i64 11, .int .i64 i, .int .u64 b, .string s, .slice (some ⟨g, o, none⟩) len cap] 25) #[.int .i64 0, .int .i64 0, .int .u64 0, .string ⟨#[]⟩, .slice none 0 0] 25
  go_enter Tryz.func43, Tryz.ntmps43
  go_wp2_with fail
  refine (HM.out _ B0 (by simp)).mono ?_
  rintro e w1 ⟨k', i', u', s', a', n', c', rfl, p0, b1⟩
  have P1 := Lib.hid p0
  have B1 := B0.trans (b1.mono B0.size)
  have R1 := R0.step b1
  clear p0 b1 B0 R0 y0 y1 y2 y3 y4 hg hl
  obtain ⟨c0, c1, c2, c3, c4⟩ := R1.c5
  have z1 := R1.f
  go_wp2_with fail
  obtain ⟨k1, k2, k3, k4⟩ := set5 R1 (.int .i64 k') (.int .i64 i') (.int .u64 u') (.string s') (.slice a' n' c') rfl
  have KP := Lib.hid (hP'.out _ _ _ _ _ _ _ _ _ P1.out (Nat.le_of_eq k2.symm) fun g hg _ => k3 g (by omega))
  have KF := B1.trans (k4.mono (by omega))
  obtain ⟨q0, q1, q2, q3, q4⟩ := k1.c5
  refine bodyPost_ret (v := .tuple #[.agg #[.int .i64 k', .int .i64 i', .int .u64 u', .string s', .slice a' n' c'], .int .i64 0]) ?_ rfl ⟨k', i', u', s', a', n', c', rfl, KP.out, KF⟩
  simp [results, Tryz.results43, go_sem, q0, q1, q2, q3, q4]

set_option maxRecDepth 100000 in
set_option maxHeartbeats 1000000 in
theorem ropen_no (k i b : Int) (s : ByteArray) (ad : Option Addr) (len cap : Nat) (m : Int) (w : World)
    (hF : ∀ wx, Below w.heap.size w wx → Calls Tryz.prog 23 #[.agg #[.int .i64 k, .int .i64 i, .int .u64 b, .string s, .slice ad len cap], .int .i64 3] wx fun e w' => e = .returned (.agg (rErr 110 0 2 m)) ∧ Below wx.heap.size wx w') :
    Calls Tryz.prog 27 #[.agg #[.int .i64 k, .int .i64 i, .int .u64 b, .string s, .slice ad len cap]] w fun e w' => e = .returned (.agg (rErr 110 0 2 m)) ∧ Below w.heap.size w w' := by
  have HF := Lib.hid hF
  clear hF
  have B0 := below2 w (.cells #[.int .i64 k, .int .i64 i, .int .u64 b, .string s, .slice ad len cap] 25) (.cells (rErr 0 0 0 0) 33)
  have D0 : Bk ((w.alloc (.cells #[.int .i64 k, .int .i64 i, .int .u64 b, .string s, .slice ad len cap] 25)).alloc (.cells (rErr 0 0 0 0) 33)) w.heap.size #[.int .i64 k, .int .i64 i, .int .u64 b, .string s, .slice ad len cap] 25 := (Bk.new w _ _).alloc _
  have R0 := Bk.new2 w (.cells #[.int .i64 k, .int .i64 i, .int .u64 b, .string s, .slice ad len cap] 25) (rErr 0 0 0 0) 33
  go_enter Tryz.func27, Tryz.ntmps27
  go_wp2_with fail
  refine (HF.out _ B0).mono ?_
  rintro e w1 ⟨rfl, b1⟩
  have e1 := below1 w1 (.cells (rErr 110 0 2 m) 33)
  have B2 := (B0.trans (b1.mono B0.size)).trans (e1.mono (Nat.le_trans B0.size b1.size))
  have r2 := (R0.step b1).step e1
  clear b1 e1 B0 R0 D0
  obtain ⟨c0, c1, c2, c3, c4, c5, c6, c7, c8, c9⟩ := r2.c10
  have z2 := r2.f
  go_wp2_with fail
  obtain ⟨k1, k2, k3, k4⟩ := set10 r2 (.int .i64 110) (.int .i64 0) (.int .i64 2) (.int .i64 m) (.bool false) (.int .i64 0) (.int .i64 0) (.int .u64 0) (.string ⟨#[]⟩) (.slice none 0 0) rfl
  have KF := B2.trans (k4.mono (by omega))
  obtain ⟨q0, q1, q2, q3, q4, q5, q6, q7, q8, q9⟩ := k1.c10
  refine bodyPost_ret (v := .agg (rErr 110 0 2 m)) ?_ rfl ⟨rfl, KF⟩
  simp [results, Tryz.results27, go_sem, q0, q1, q2, q3, q4, q5, q6, q7, q8, q9]

set_option maxRecDepth 100000 in
set_option maxHeartbeats 1000000 in
theorem ropen_nil (k i b : Int) (s : ByteArray) (ad : Option Addr) (len cap : Nat) (w : World)
    (hF : ∀ wx, Below w.heap.size w wx → Calls Tryz.prog 23 #[.agg #[.int .i64 k, .int .i64 i, .int .u64 b, .string s, .slice ad len cap], .int .i64 3] wx fun e w' => ∃ k i u s a n c, e = .returned (.agg (rcs 0 0 0 0 true k i u s a n c)) ∧ Below wx.heap.size wx w')
    (hO : ∀ wx, Below w.heap.size w wx → Calls Tryz.prog 43 #[.agg #[.int .i64 k, .int .i64 i, .int .u64 b, .string s, .slice ad len cap]] wx fun e w' => e = .returned (.tuple #[.agg #[.int .i64 0, .int .i64 0, .int .u64 0, .string ⟨#[]⟩, .slice none 0 0], .int .i64 13]) ∧ Below wx.heap.size wx w') :
    Calls Tryz.prog 27 #[.agg #[.int .i64 k, .int .i64 i, .int .u64 b, .string s, .slice ad len cap]] w fun e w' => e = .returned (.agg (rErr 110 0 3 0)) ∧ Below w.heap.size w w' := by
  have HF := Lib.hid hF
  have HO := Lib.hid hO
  have RP := Lib.hid rpan_any
  clear hF hO
  have B0 := below2 w (.cells #[.int .i64 k, .int .i64 i, .int .u64 b, .string s, .slice ad len cap] 25) (.cells (rErr 0 0 0 0) 33)
  have D0 : Bk ((w.alloc (.cells #[.int .i64 k, .int .i64 i, .int .u64 b, .string s, .slice ad len cap] 25)).alloc (.cells (rErr 0 0 0 0) 33)) w.heap.size #[.int .i64 k, .int .i64 i, .int .u64 b, .string s, .slice ad len cap] 25 := (Bk.new w _ _).alloc _
  have R0 := Bk.new2 w (.cells #[.int .i64 k, .int .i64 i, .int .u64 b, .string s, .slice ad len cap] 25) (rErr 0 0 0 0) 33
  go_enter Tryz.func27, Tryz.ntmps27
  go_wp2_with fail
  refine (HF.out _ B0).mono ?_
  rintro e w1 ⟨k5, i5, u5, s5, a5, n5, c5, rfl, b1⟩
  have e1 := below1 w1 (.cells (rcs 0 0 0 0 true k5 i5 u5 s5 a5 n5 c5) 33)
  have B1 := (B0.trans (b1.mono B0.size)).trans (e1.mono (Nat.le_trans B0.size b1.size))
  have D1 := (D0.step b1).step e1
  have R1 := (R0.step b1).step e1
  clear b1 e1 B0 D0 R0
  obtain ⟨d0, d1, d2, d3, d4⟩ := D1.c5
  go_wp2_with fail
  refine (HO.out _ B1).mono ?_
  rintro e w2 ⟨rfl, b2⟩
  have e2 := below1 w2 (.cells #[.int .i64 0, .int .i64 0, .int .u64 0, .string ⟨#[]⟩, .slice none 0 0] 25)
  have B3 := (B1.trans (b2.mono B1.size)).trans (e2.mono (Nat.le_trans B1.size b2.size))
  have R3 := (R1.step b2).step e2
  clear b2 e2 B1 R1 D1 d0 d1 d2 d3 d4
  go_wp2_with fail
  refine (RP.out _ _ _).mono ?_
  rintro e w3 ⟨rfl, b3⟩
  have r2 := R3.step b3
  have B2 := B3.trans (b3.mono B3.size)
  clear b3 B3 R3
  obtain ⟨c0, c1, c2, c3, c4, c5, c6, c7, c8, c9⟩ := r2.c10
  have z2 := r2.f
  go_wp2_with fail
  obtain ⟨k1, k2, k3, k4⟩ := set10 r2 (.int .i64 110) (.int .i64 0) (.int .i64 3) (.int .i64 0) (.bool false) (.int .i64 0) (.int .i64 0) (.int .u64 0) (.string ⟨#[]⟩) (.slice none 0 0) rfl
  have KF := B2.trans (k4.mono (by omega))
  obtain ⟨q0, q1, q2, q3, q4, q5, q6, q7, q8, q9⟩ := k1.c10
  refine bodyPost_ret (v := .agg (rErr 110 0 3 0)) ?_ rfl ⟨rfl, KF⟩
  simp [results, Tryz.results27, go_sem, q0, q1, q2, q3, q4, q5, q6, q7, q8, q9]

set_option maxRecDepth 100000 in
set_option maxHeartbeats 1000000 in
theorem ropen_yes (k i b : Int) (s : ByteArray) (ad : Option Addr) (len cap : Nat) (w : World) (H : Nat) (hH : w.heap.size + 2 ≤ H) (P : BodyP) (hP : St H P)
    (hF : ∀ wx, Below w.heap.size w wx → Calls Tryz.prog 23 #[.agg #[.int .i64 k, .int .i64 i, .int .u64 b, .string s, .slice ad len cap], .int .i64 3] wx fun e w' => ∃ k i u s a n c, e = .returned (.agg (rcs 0 0 0 0 true k i u s a n c)) ∧ Below wx.heap.size wx w')
    (hO : ∀ wx, Below w.heap.size w wx → w.heap.size + 2 ≤ wx.heap.size → Calls Tryz.prog 43 #[.agg #[.int .i64 k, .int .i64 i, .int .u64 b, .string s, .slice ad len cap]] wx fun e w' => ∃ k i u s a n c, e = .returned (.tuple #[.agg #[.int .i64 k, .int .i64 i, .int .u64 u, .string s, .slice a n c], .int .i64 0]) ∧ P k i u s a n c w' ∧ Below wx.heap.size wx w') :
    Calls Tryz.prog 27 #[.agg #[.int .i64 k, .int .i64 i, .int .u64 b, .string s, .slice ad len cap]] w fun e w' => ∃ k i u s a n c, e = .returned (.agg (rcs 0 0 0 0 true k i u s a n c)) ∧ P k i u s a n c w' ∧ Below w.heap.size w w' := by
  have HF := Lib.hid hF
  have HO := Lib.hid hO
  have RG := Lib.hid rgave_any
  have hP' := Lib.hid hP
  clear hF hO hP
  have B0 := below2 w (.cells #[.int .i64 k, .int .i64 i, .int .u64 b, .string s, .slice ad len cap] 25) (.cells (rErr 0 0 0 0) 33)
  have D0 : Bk ((w.alloc (.cells #[.int .i64 k, .int .i64 i, .int .u64 b, .string s, .slice ad len cap] 25)).alloc (.cells (rErr 0 0 0 0) 33)) w.heap.size #[.int .i64 k, .int .i64 i, .int .u64 b, .string s, .slice ad len cap] 25 := (Bk.new w _ _).alloc _
  have R0 := Bk.new2 w (.cells #[.int .i64 k, .int .i64 i, .int .u64 b, .string s, .slice ad len cap] 25) (rErr 0 0 0 0) 33
  go_enter Tryz.func27, Tryz.ntmps27
  go_wp2_with fail
  refine (HF.out _ B0).mono ?_
  rintro e w1 ⟨k5, i5, u5, s5, a5, n5, c5, rfl, b1⟩
  have e1 := below1 w1 (.cells (rcs 0 0 0 0 true k5 i5 u5 s5 a5 n5 c5) 33)
  have B1 := (B0.trans (b1.mono B0.size)).trans (e1.mono (Nat.le_trans B0.size b1.size))
  have D1 := (D0.step b1).step e1
  have R1 := (R0.step b1).step e1
  have hs1 : w.heap.size + 2 ≤ w1.heap.size := by have := b1.size; simpa using this
  clear b1 e1 B0 D0 R0
  obtain ⟨d0, d1, d2, d3, d4⟩ := D1.c5
  go_wp2_with fail
  refine (HO.out _ B1 (by simp; omega)).mono ?_
  rintro e w2 ⟨k', i', u', s', a', n', c', rfl, p2, b2⟩
  have e2 := below1 w2 (.cells #[.int .i64 k', .int .i64 i', .int .u64 u', .string s', .slice a' n' c'] 25)
  have B3 := (B1.trans (b2.mono B1.size)).trans (e2.mono (Nat.le_trans B1.size b2.size))
  have R3 := (R1.step b2).step e2
  have P3 := Lib.hid (hP'.out.below p2 e2)
  clear b2 e2 B1 R1 D1 d0 d1 d2 d3 d4 p2
  go_wp2_with fail
  refine (RG.out _ _ _ _ _ _ _ _).mono ?_
  rintro e w3 ⟨rfl, b3⟩
  have r2 := R3.step b3
  have B2 := B3.trans (b3.mono B3.size)
  have PP := Lib.hid (hP'.out.below P3.out b3)
  clear b3 B3 R3 P3
  obtain ⟨c0, c1, c2, c3, c4, c5, c6, c7, c8, c9⟩ := r2.c10
  have z2 := r2.f
  go_wp2_with fail
  obtain ⟨k1, k2, k3, k4⟩ := set10 r2 (.int .i64 0) (.int .i64 0) (.int .i64 0) (.int .i64 0) (.bool true) (.int .i64 k') (.int .i64 i') (.int .u64 u') (.string s') (.slice a' n' c') rfl
  have KP := Lib.hid (hP'.out _ _ _ _ _ _ _ _ _ PP.out (Nat.le_of_eq k2.symm) fun g hg _ => k3 g (by omega))
  have KF := B2.trans (k4.mono (by omega))
  obtain ⟨q0, q1, q2, q3, q4, q5, q6, q7, q8, q9⟩ := k1.c10
  refine bodyPost_ret (v := .agg (rcs 0 0 0 0 true k' i' u' s' a' n' c')) ?_ rfl ⟨k', i', u', s', a', n', c', rfl, KP.out, KF⟩
  simp [results, Tryz.results27, go_sem, q0, q1, q2, q3, q4, q5, q6, q7, q8, q9]
end Go.Proofs.YtajagjcfmaggiaaGreatDoor
