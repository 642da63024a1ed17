/- What the package's inner look at one part answers at the kinds 7 to 13: the document's table's answer; the condition: the table of fields as the text lays it. -/
import Derived.Test.YtfanoiomiijlgaaDoorWfA
namespace Go.Proofs.YtfanoiomiijlgaaDoor
open Go.RowKit

set_option maxRecDepth 100000 in
set_option maxHeartbeats 1000000 in
theorem formed7 (i u : Int) (s : ByteArray) (ad : Option Addr) (len cap : Nat) (w : World) (h : Tab14 w) (_hs : s.size ≤ maxLen) (_hl : len ≤ maxLen) :
    Calls Tryd.prog 24 #[.agg #[.int .i64 7, .int .i64 i, .int .u64 u, .string s, .slice ad len cap]] w fun e w' => e = .returned (.bool (okB 7 i u s.size len)) ∧ Below w.heap.size w w' := by
  have m1 : ∀ o1 o2 : Obj, ((w.alloc o1).alloc o2).cell? ⟨1, 7, none⟩ = some (.int .u8 4) := tab2 h 7 (by decide)
  have b1 : bits BinOp.and IntKind.u8 4 1 = 0 := by kernel_rfl
  have b2 : bits BinOp.and IntKind.u8 4 2 = 0 := by kernel_rfl
  have b3 : bits BinOp.and IntKind.u8 4 4 = 4 := by kernel_rfl
  have b4 : bits BinOp.and IntKind.u8 4 8 = 0 := by kernel_rfl
  unfold maxLen at _hs _hl
  clear h
  go_enter Tryd.func24, Tryd.ntmps24
  go_wp2
  all_goals go_ret
  all_goals refine ⟨ret_b ?_, ((Below.refl _ w).alloc (Nat.le_refl _) _).alloc (by simp) _⟩
  all_goals clear m1 b1 b2 b3 b4
  all_goals have hz := nil_size s
  all_goals generalize s.toList = L at *
  all_goals generalize s.size = z at *
  all_goals (simp_all [okB] <;> first | omega | (rw [Bool.eq_iff_iff]; simp; omega))
set_option maxRecDepth 100000 in
set_option maxHeartbeats 1000000 in
theorem formed8 (i u : Int) (s : ByteArray) (ad : Option Addr) (len cap : Nat) (w : World) (h : Tab14 w) (_hs : s.size ≤ maxLen) (_hl : len ≤ maxLen) :
    Calls Tryd.prog 24 #[.agg #[.int .i64 8, .int .i64 i, .int .u64 u, .string s, .slice ad len cap]] w fun e w' => e = .returned (.bool (okB 8 i u s.size len)) ∧ Below w.heap.size w w' := by
  have m1 : ∀ o1 o2 : Obj, ((w.alloc o1).alloc o2).cell? ⟨1, 8, none⟩ = some (.int .u8 8) := tab2 h 8 (by decide)
  have b1 : bits BinOp.and IntKind.u8 8 1 = 0 := by kernel_rfl
  have b2 : bits BinOp.and IntKind.u8 8 2 = 0 := by kernel_rfl
  have b3 : bits BinOp.and IntKind.u8 8 4 = 0 := by kernel_rfl
  have b4 : bits BinOp.and IntKind.u8 8 8 = 8 := by kernel_rfl
  unfold maxLen at _hs _hl
  clear h
  go_enter Tryd.func24, Tryd.ntmps24
  go_wp2
  all_goals go_ret
  all_goals refine ⟨ret_b ?_, ((Below.refl _ w).alloc (Nat.le_refl _) _).alloc (by simp) _⟩
  all_goals clear m1 b1 b2 b3 b4
  all_goals have hz := nil_size s
  all_goals generalize s.toList = L at *
  all_goals generalize s.size = z at *
  all_goals (simp_all [okB] <;> first | omega | (rw [Bool.eq_iff_iff]; simp; omega))
set_option maxRecDepth 100000 in
set_option maxHeartbeats 1000000 in
theorem formed9 (i u : Int) (s : ByteArray) (ad : Option Addr) (len cap : Nat) (w : World) (h : Tab14 w) (_hs : s.size ≤ maxLen) (_hl : len ≤ maxLen) :
    Calls Tryd.prog 24 #[.agg #[.int .i64 9, .int .i64 i, .int .u64 u, .string s, .slice ad len cap]] w fun e w' => e = .returned (.bool (okB 9 i u s.size len)) ∧ Below w.heap.size w w' := by
  have m1 : ∀ o1 o2 : Obj, ((w.alloc o1).alloc o2).cell? ⟨1, 9, none⟩ = some (.int .u8 8) := tab2 h 9 (by decide)
  have b1 : bits BinOp.and IntKind.u8 8 1 = 0 := by kernel_rfl
  have b2 : bits BinOp.and IntKind.u8 8 2 = 0 := by kernel_rfl
  have b3 : bits BinOp.and IntKind.u8 8 4 = 0 := by kernel_rfl
  have b4 : bits BinOp.and IntKind.u8 8 8 = 8 := by kernel_rfl
  unfold maxLen at _hs _hl
  clear h
  go_enter Tryd.func24, Tryd.ntmps24
  go_wp2
  all_goals go_ret
  all_goals refine ⟨ret_b ?_, ((Below.refl _ w).alloc (Nat.le_refl _) _).alloc (by simp) _⟩
  all_goals clear m1 b1 b2 b3 b4
  all_goals have hz := nil_size s
  all_goals generalize s.toList = L at *
  all_goals generalize s.size = z at *
  all_goals (simp_all [okB] <;> first | omega | (rw [Bool.eq_iff_iff]; simp; omega))
set_option maxRecDepth 100000 in
set_option maxHeartbeats 1000000 in
theorem formed10 (i u : Int) (s : ByteArray) (ad : Option Addr) (len cap : Nat) (w : World) (h : Tab14 w) (_hs : s.size ≤ maxLen) (_hl : len ≤ maxLen) :
    Calls Tryd.prog 24 #[.agg #[.int .i64 10, .int .i64 i, .int .u64 u, .string s, .slice ad len cap]] w fun e w' => e = .returned (.bool (okB 10 i u s.size len)) ∧ Below w.heap.size w w' := by
  have m1 : ∀ o1 o2 : Obj, ((w.alloc o1).alloc o2).cell? ⟨1, 10, none⟩ = some (.int .u8 5) := tab2 h 10 (by decide)
  have b1 : bits BinOp.and IntKind.u8 5 1 = 1 := by kernel_rfl
  have b2 : bits BinOp.and IntKind.u8 5 2 = 0 := by kernel_rfl
  have b3 : bits BinOp.and IntKind.u8 5 4 = 4 := by kernel_rfl
  have b4 : bits BinOp.and IntKind.u8 5 8 = 0 := by kernel_rfl
  unfold maxLen at _hs _hl
  clear h
  go_enter Tryd.func24, Tryd.ntmps24
  go_wp2
  all_goals go_ret
  all_goals refine ⟨ret_b ?_, ((Below.refl _ w).alloc (Nat.le_refl _) _).alloc (by simp) _⟩
  all_goals clear m1 b1 b2 b3 b4
  all_goals have hz := nil_size s
  all_goals generalize s.toList = L at *
  all_goals generalize s.size = z at *
  all_goals (simp_all [okB] <;> first | omega | (rw [Bool.eq_iff_iff]; simp; omega))
set_option maxRecDepth 100000 in
set_option maxHeartbeats 1000000 in
theorem formed11 (i u : Int) (s : ByteArray) (ad : Option Addr) (len cap : Nat) (w : World) (h : Tab14 w) (_hs : s.size ≤ maxLen) (_hl : len ≤ maxLen) :
    Calls Tryd.prog 24 #[.agg #[.int .i64 11, .int .i64 i, .int .u64 u, .string s, .slice ad len cap]] w fun e w' => e = .returned (.bool (okB 11 i u s.size len)) ∧ Below w.heap.size w w' := by
  have m1 : ∀ o1 o2 : Obj, ((w.alloc o1).alloc o2).cell? ⟨1, 11, none⟩ = some (.int .u8 9) := tab2 h 11 (by decide)
  have b1 : bits BinOp.and IntKind.u8 9 1 = 1 := by kernel_rfl
  have b2 : bits BinOp.and IntKind.u8 9 2 = 0 := by kernel_rfl
  have b3 : bits BinOp.and IntKind.u8 9 4 = 0 := by kernel_rfl
  have b4 : bits BinOp.and IntKind.u8 9 8 = 8 := by kernel_rfl
  unfold maxLen at _hs _hl
  clear h
  go_enter Tryd.func24, Tryd.ntmps24
  go_wp2
  all_goals go_ret
  all_goals refine ⟨ret_b ?_, ((Below.refl _ w).alloc (Nat.le_refl _) _).alloc (by simp) _⟩
  all_goals clear m1 b1 b2 b3 b4
  all_goals have hz := nil_size s
  all_goals generalize s.toList = L at *
  all_goals generalize s.size = z at *
  all_goals (simp_all [okB] <;> first | omega | (rw [Bool.eq_iff_iff]; simp; omega))
set_option maxRecDepth 100000 in
set_option maxHeartbeats 1000000 in
theorem formed12 (i u : Int) (s : ByteArray) (ad : Option Addr) (len cap : Nat) (w : World) (h : Tab14 w) (_hs : s.size ≤ maxLen) (_hl : len ≤ maxLen) :
    Calls Tryd.prog 24 #[.agg #[.int .i64 12, .int .i64 i, .int .u64 u, .string s, .slice ad len cap]] w fun e w' => e = .returned (.bool (okB 12 i u s.size len)) ∧ Below w.heap.size w w' := by
  have m1 : ∀ o1 o2 : Obj, ((w.alloc o1).alloc o2).cell? ⟨1, 12, none⟩ = some (.int .u8 0) := tab2 h 12 (by decide)
  have b1 : bits BinOp.and IntKind.u8 0 1 = 0 := by kernel_rfl
  have b2 : bits BinOp.and IntKind.u8 0 2 = 0 := by kernel_rfl
  have b3 : bits BinOp.and IntKind.u8 0 4 = 0 := by kernel_rfl
  have b4 : bits BinOp.and IntKind.u8 0 8 = 0 := by kernel_rfl
  unfold maxLen at _hs _hl
  clear h
  go_enter Tryd.func24, Tryd.ntmps24
  go_wp2
  all_goals go_ret
  all_goals refine ⟨ret_b ?_, ((Below.refl _ w).alloc (Nat.le_refl _) _).alloc (by simp) _⟩
  all_goals clear m1 b1 b2 b3 b4
  all_goals have hz := nil_size s
  all_goals generalize s.toList = L at *
  all_goals generalize s.size = z at *
  all_goals (simp_all [okB] <;> first | omega | (rw [Bool.eq_iff_iff]; simp; omega))
set_option maxRecDepth 100000 in
set_option maxHeartbeats 1000000 in
theorem formed13 (i u : Int) (s : ByteArray) (ad : Option Addr) (len cap : Nat) (w : World) (h : Tab14 w) (_hs : s.size ≤ maxLen) (_hl : len ≤ maxLen) :
    Calls Tryd.prog 24 #[.agg #[.int .i64 13, .int .i64 i, .int .u64 u, .string s, .slice ad len cap]] w fun e w' => e = .returned (.bool (okB 13 i u s.size len)) ∧ Below w.heap.size w w' := by
  have m1 : ∀ o1 o2 : Obj, ((w.alloc o1).alloc o2).cell? ⟨1, 13, none⟩ = some (.int .u8 0) := tab2 h 13 (by decide)
  have b1 : bits BinOp.and IntKind.u8 0 1 = 0 := by kernel_rfl
  have b2 : bits BinOp.and IntKind.u8 0 2 = 0 := by kernel_rfl
  have b3 : bits BinOp.and IntKind.u8 0 4 = 0 := by kernel_rfl
  have b4 : bits BinOp.and IntKind.u8 0 8 = 0 := by kernel_rfl
  unfold maxLen at _hs _hl
  clear h
  go_enter Tryd.func24, Tryd.ntmps24
  go_wp2
  all_goals go_ret
  all_goals refine ⟨ret_b ?_, ((Below.refl _ w).alloc (Nat.le_refl _) _).alloc (by simp) _⟩
  all_goals clear m1 b1 b2 b3 b4
  all_goals have hz := nil_size s
  all_goals generalize s.toList = L at *
  all_goals generalize s.size = z at *
  all_goals (simp_all [okB] <;> first | omega | (rw [Bool.eq_iff_iff]; simp; omega))

theorem formedNo (k i u : Int) (s : ByteArray) (ad : Option Addr) (len cap : Nat) (w : World) (hk : k < 0 ∨ 13 < k) :
    Calls Tryd.prog 24 #[.agg #[.int .i64 k, .int .i64 i, .int .u64 u, .string s, .slice ad len cap]] w fun e w' => e = .returned (.bool (okB k i u s.size len)) ∧ Below w.heap.size w w' := by
  have ho : okB k i u s.size len = false := by
    have n0 : k ≠ 0 := by omega
    have n1 : k ≠ 1 := by omega
    have n2 : k ≠ 2 := by omega
    have n3 : k ≠ 3 := by omega
    have n4 : k ≠ 4 := by omega
    have n5 : k ≠ 5 := by omega
    have n6 : k ≠ 6 := by omega
    have n7 : k ≠ 7 := by omega
    have n8 : k ≠ 8 := by omega
    have n9 : k ≠ 9 := by omega
    have n10 : k ≠ 10 := by omega
    have n11 : k ≠ 11 := by omega
    have n12 : k ≠ 12 := by omega
    have n13 : k ≠ 13 := by omega
    simp [okB, n0, n1, n2, n3, n4, n5, n6, n7, n8, n9, n10, n11, n12, n13]
  rw [ho]
  clear ho
  rcases hk with hk | hk
  · go_enter Tryd.func24, Tryd.ntmps24
    go_wp2
    go_ret
    exact ⟨rfl, (Below.refl _ w).alloc (Nat.le_refl _) _⟩
  · have hk0 : ¬ k < 0 := by omega
    have hk1 : 14 ≤ k := by omega
    go_enter Tryd.func24, Tryd.ntmps24
    go_wp2
    go_ret
    exact ⟨rfl, (Below.refl _ w).alloc (Nat.le_refl _) _⟩
theorem formed_any (k i u : Int) (s : ByteArray) (ad : Option Addr) (len cap : Nat) (w : World) (h : Tab14 w) (hs : s.size ≤ maxLen) (hl : len ≤ maxLen) :
    Calls Tryd.prog 24 #[.agg #[.int .i64 k, .int .i64 i, .int .u64 u, .string s, .slice ad len cap]] w fun e w' => e = .returned (.bool (okB k i u s.size len)) ∧ Below w.heap.size w w' := by
  by_cases hk : k < 0 ∨ 13 < k
  · exact formedNo k i u s ad len cap w hk
  have hk : k = 0 ∨ k = 1 ∨ k = 2 ∨ k = 3 ∨ k = 4 ∨ k = 5 ∨ k = 6 ∨ k = 7 ∨ k = 8 ∨ k = 9 ∨ k = 10 ∨ k = 11 ∨ k = 12 ∨ k = 13 := by omega
  rcases hk with rfl | rfl | rfl | rfl | rfl | rfl | rfl | rfl | rfl | rfl | rfl | rfl | rfl | rfl
  · exact formed0 i u s ad len cap w h hs hl
  · exact formed1 i u s ad len cap w h hs hl
  · exact formed2 i u s ad len cap w h hs hl
  · exact formed3 i u s ad len cap w h hs hl
  · exact formed4 i u s ad len cap w h hs hl
  · exact formed5 i u s ad len cap w h hs hl
  · exact formed6 i u s ad len cap w h hs hl
  · exact formed7 i u s ad len cap w h hs hl
  · exact formed8 i u s ad len cap w h hs hl
  · exact formed9 i u s ad len cap w h hs hl
  · exact formed10 i u s ad len cap w h hs hl
  · exact formed11 i u s ad len cap w h hs hl
  · exact formed12 i u s ad len cap w h hs hl
  · exact formed13 i u s ad len cap w h hs hl
end Go.Proofs.YtfanoiomiijlgaaDoor
