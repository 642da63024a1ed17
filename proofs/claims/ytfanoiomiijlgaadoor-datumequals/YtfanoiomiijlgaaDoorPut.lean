/- What the package's inner calls that write a value's text append at the values that this package's own check reads; each theorem names its conditions. -/
import Derived.Test.YtfanoiomiijlgaaDoorValid
namespace Go.Proofs.YtfanoiomiijlgaaDoor
open Go.RowKit

theorem below_own {B : Nat} {w0 w w' : World} {e : TypeId} {size : Nat} {v : Value} {n : Nat} {xs : List Value} (h : Below B w0 w) (hw : w.ownsRow B e size v n xs) (hg : w.grownBy w' v.ownBlock) (hB : B ≤ w.heap.size) : Below B w0 w' :=
  h.grown hg hB (fun k hk => (hw.lt k hk).1)

set_option maxRecDepth 100000 in
set_option maxHeartbeats 1000000 in
theorem quoteA (B n : Nat) (xs : List Value) (v : Value) (w : World) (own : w.ownsRow B 5 1 v n xs) (hB : B ≤ w.heap.size) (hn : n ≤ 1000) :
    Calls Tryd.prog 37 #[v, .string ⟨#[97]⟩] w fun e w' => ∃ v', e = .returned v' ∧ w'.ownsRow B 5 1 v' (n + 3) (xs ++ [.int .u8 34, .int .u8 97, .int .u8 34]) ∧ Below B w w' := by
  obtain ⟨i0, hi, hz0, hz1, hz2⟩ := info_parts infoByte
  have hx : ((ByteArray.mk #[97])[0]'(by decide)).toNat = 97 := rfl
  go_enter Tryd.func37, Tryd.ntmps37
  go_wp2_with (at_builtin; refine wpList_append_own _ rfl _ _ 54 rfl B 5 i0 (.int .u8 0) 1 1 Tryd.underlying54 hi hz0 hz1 hz2 rfl (by decide) v n xs rfl (own.alloc _) ⟨w.heap.size, 0, none⟩ 1 1 [Value.int .u8 34] rfl rfl ?hnews ?h1 ?h63 ?hby ?hbase ?next)
  case hnews => exact cell_one_new _ _ _
  case h1 => intro u hu; simp at hu; subst hu; rfl
  case h63 => unfold maxLen; omega
  case hby => omega
  case hbase => simp; omega
  intro v1 w1 own1 g1 _
  have b1 : Below B w w1 := below_own ((Below.refl B w).alloc hB _) (own.alloc _) g1 (by simp; omega)
  have z1 : B ≤ w1.heap.size := Nat.le_trans hB b1.size
  clear own g1
  go_wp2_with fail
  refine wp_loop_rounds 2 ?_
  rw [rounds_succ]
  go_wp2_with fail
  refine (needs_any _ _).mono ?_
  rintro e w2 ⟨rfl, rfl⟩
  go_wp2_with (at_builtin; refine wpList_append_own _ rfl _ _ 54 rfl B 5 i0 (.int .u8 0) 1 1 Tryd.underlying54 hi hz0 hz1 hz2 rfl (by decide) v1 _ _ rfl (own1.alloc _) ⟨w2.heap.size, 0, none⟩ 1 1 [Value.int .u8 97] rfl rfl ?hnewsB ?h1B ?h63B ?hbyB ?hbaseB ?nextB)
  case hnewsB => exact cell_one_new _ _ _
  case h1B => intro u hu; simp at hu; subst hu; rfl
  case h63B => unfold maxLen; omega
  case hbyB => omega
  case hbaseB => simp; omega
  intro v3 w3 own3 g3 _
  have b3 : Below B w w3 := below_own (b1.alloc z1 _) (own1.alloc _) g3 (by simp; omega)
  have z3 : B ≤ w3.heap.size := Nat.le_trans hB b3.size
  clear own1 g3 b1 z1
  go_wp2_with fail
  rw [rounds_succ]
  go_wp2_with (at_builtin; refine wpList_append_own _ rfl _ _ 54 rfl B 5 i0 (.int .u8 0) 1 1 Tryd.underlying54 hi hz0 hz1 hz2 rfl (by decide) v3 _ _ rfl (own3.alloc _) ⟨w3.heap.size, 0, none⟩ 1 1 [Value.int .u8 34] rfl rfl ?hnewsC ?h1C ?h63C ?hbyC ?hbaseC ?nextC)
  case hnewsC => exact cell_one_new _ _ _
  case h1C => intro u hu; simp at hu; subst hu; rfl
  case h63C => unfold maxLen; omega
  case hbyC => omega
  case hbaseC => simp; omega
  intro v4 w4 own4 g4 _
  have b4 : Below B w w4 := below_own (b3.alloc z3 _) (own3.alloc _) g4 (by simp; omega)
  go_wp2
  go_ret
  exact ⟨v4, rfl, by simpa [List.append_assoc] using own4, b4⟩

theorem as56_56 (v : Value) (w : World) : (Instr.typeAssert (.iface 56 v) 20 56 true).run Tryd.prog w = .ok (.tuple #[v, .bool true]) w := by kernel_rfl
theorem as59_56 (v : Value) (w : World) : (Instr.typeAssert (.iface 59 v) 20 56 true).run Tryd.prog w = .ok (.tuple #[.int .i64 0, .bool false]) w := by kernel_rfl
theorem as59_57 (v : Value) (w : World) : (Instr.typeAssert (.iface 59 v) 20 57 true).run Tryd.prog w = .ok (.tuple #[.int .i64 0, .bool false]) w := by kernel_rfl
theorem as59_58 (v : Value) (w : World) : (Instr.typeAssert (.iface 59 v) 20 58 true).run Tryd.prog w = .ok (.tuple #[.float .f64 0, .bool false]) w := by kernel_rfl
theorem as59_59 (v : Value) (w : World) : (Instr.typeAssert (.iface 59 v) 20 59 true).run Tryd.prog w = .ok (.tuple #[v, .bool true]) w := by kernel_rfl
theorem as64_56 (v : Value) (w : World) : (Instr.typeAssert (.iface 64 v) 20 56 true).run Tryd.prog w = .ok (.tuple #[.int .i64 0, .bool false]) w := by kernel_rfl
theorem as64_57 (v : Value) (w : World) : (Instr.typeAssert (.iface 64 v) 20 57 true).run Tryd.prog w = .ok (.tuple #[.int .i64 0, .bool false]) w := by kernel_rfl
theorem as64_58 (v : Value) (w : World) : (Instr.typeAssert (.iface 64 v) 20 58 true).run Tryd.prog w = .ok (.tuple #[.float .f64 0, .bool false]) w := by kernel_rfl
theorem as64_59 (v : Value) (w : World) : (Instr.typeAssert (.iface 64 v) 20 59 true).run Tryd.prog w = .ok (.tuple #[.string ⟨#[]⟩, .bool false]) w := by kernel_rfl
theorem as64_60 (v : Value) (w : World) : (Instr.typeAssert (.iface 64 v) 20 60 true).run Tryd.prog w = .ok (.tuple #[.string ⟨#[]⟩, .bool false]) w := by kernel_rfl
theorem as64_61 (v : Value) (w : World) : (Instr.typeAssert (.iface 64 v) 20 61 true).run Tryd.prog w = .ok (.tuple #[.bool false, .bool false]) w := by kernel_rfl
theorem as64_62 (v : Value) (w : World) : (Instr.typeAssert (.iface 64 v) 20 62 true).run Tryd.prog w = .ok (.tuple #[.slice none 0 0, .bool false]) w := by kernel_rfl
theorem as64_64 (v : Value) (w : World) : (Instr.typeAssert (.iface 64 v) 20 64 true).run Tryd.prog w = .ok (.tuple #[v, .bool true]) w := by kernel_rfl

/-- The table of powers that the library's numerals read, whatever is done from block B on. -/
def Pow (B : Nat) (w : World) : Prop := Lib.TabBelow Tryd.prog B w "internal/strconv.uint64pow10" .u64 Lib.pow10Tab

set_option maxRecDepth 100000 in
set_option maxHeartbeats 1000000 in
theorem putOne (B n : Nat) (xs : List Value) (v : Value) (w : World) (own : w.ownsRow B 5 1 v n xs) (hB : B ≤ w.heap.size) (hn : n ≤ 1000) (hT : Pow B w) :
    Calls Tryd.prog 26 #[v, .iface 56 (.int .i64 1)] w fun e w' => ∃ v', e = .returned v' ∧ w'.ownsRow B 5 1 v' (n + 1) (xs ++ [.int .u8 49]) ∧ Below B w w' := by
  have HT := Lib.hid hT
  clear hT
  have a1 := as56_56 (.int .i64 1)
  go_enter Tryd.func26, Tryd.ntmps26
  go_wp2_with fail
  refine (Tryd.strconv_AppendInt_10 B n 1 (by decide) (by decide) v xs _ own hB (by omega) HT.out).mono ?_
  rintro e w1 ⟨v1, rfl, own1, b1, -⟩
  have e1 : Lib.itoa 1 = [49] := by decide +kernel
  rw [e1] at own1
  clear e1
  go_wp2
  go_ret
  exact ⟨v1, rfl, own1, b1⟩

set_option maxRecDepth 100000 in
set_option maxHeartbeats 1000000 in
theorem putA (B n : Nat) (xs : List Value) (v : Value) (w : World) (own : w.ownsRow B 5 1 v n xs) (hB : B ≤ w.heap.size) (hn : n ≤ 1000) :
    Calls Tryd.prog 26 #[v, .iface 59 (.string ⟨#[97]⟩)] w fun e w' => ∃ v', e = .returned v' ∧ w'.ownsRow B 5 1 v' (n + 3) (xs ++ [.int .u8 34, .int .u8 97, .int .u8 34]) ∧ Below B w w' := by
  have a1 := as59_56 (.string ⟨#[97]⟩)
  have a2 := as59_57 (.string ⟨#[97]⟩)
  have a3 := as59_58 (.string ⟨#[97]⟩)
  have a4 := as59_59 (.string ⟨#[97]⟩)
  go_enter Tryd.func26, Tryd.ntmps26
  go_wp2_with fail
  refine (quoteA B n xs v _ own hB hn).mono ?_
  rintro e w1 ⟨v1, rfl, own1, b1⟩
  go_wp2
  go_ret
  exact ⟨v1, rfl, own1, b1⟩
end Go.Proofs.YtfanoiomiijlgaaDoor
