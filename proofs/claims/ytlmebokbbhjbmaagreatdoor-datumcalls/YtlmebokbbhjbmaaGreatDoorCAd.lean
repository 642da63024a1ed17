/- Sums of two numbers that the package's methods answer, each as the language has it; no condition but those that each theorem names. -/
import Derived.Test.YtlmebokbbhjbmaaGreatDoorOOrd
import Derived.Test.YtlmebokbbhjbmaaGreatDoorDpA
import Derived.Laws.FloatArith
namespace Go.Proofs.YtlmebokbbhjbmaaGreatDoor.Dt
open Go.RowKit
def nanR (r : Nat) : Bool := FloatKind.f64.format.order r r != some .eq
/-- The bits of a sum; of what is no number, always the same ones. -/
def addF (x y : Nat) : Nat := match FloatKind.f64.format.add x y with
  | some r => if nanR r = true then 9221120237041090561 else r
  | none => 9221120237041090561
theorem addF_lt (x y : Nat) : addF x y < 18446744073709551616 := by
  unfold addF
  cases h : FloatKind.f64.format.add x y with
  | none => decide
  | some r =>
    have : r < 2 ^ FloatKind.f64.format.width := FloatKind.f64.format.add_lt h
    have h2 : r < 18446744073709551616 := this
    show (if nanR r = true then 9221120237041090561 else r) < 18446744073709551616
    split
    · decide
    · exact h2
theorem nan_cut (t : Nat) : nanR ((t % 2) * 2 ^ 63 + 0x7ff0000000000000 + 1 + (t / 2) % (2 ^ 52 - 1)) = true := by
  have h1 : t % 2 < 2 := Nat.mod_lt _ (by decide)
  have h2 : (t / 2) % (2 ^ 52 - 1) < 2 ^ 52 - 1 := Nat.mod_lt _ (by decide)
  generalize t % 2 = a at h1
  generalize (t / 2) % (2 ^ 52 - 1) = m at h2
  have hn : (FloatKind.f64.format.read (a * 2 ^ 63 + 0x7ff0000000000000 + 1 + m)).isNaN = true := by
    have hr : FloatKind.f64.format = Ieee.double := rfl
    have hs : Ieee.double.signWeight = 9223372036854775808 := by decide
    have hbn : Ieee.double.binade = 4503599627370496 := by decide
    have hif : Ieee.double.infRung = 9218868437227405312 := by decide
    rw [hr]
    unfold Ieee.Format.read
    simp only [hs, hbn, hif]
    rw [if_neg (by omega), if_neg (by omega), if_neg (by omega)]
    rfl
  have : FloatKind.f64.format.order (a * 2 ^ 63 + 0x7ff0000000000000 + 1 + m) (a * 2 ^ 63 + 0x7ff0000000000000 + 1 + m) = none := od_nan _ _ (.inl hn)
  unfold nanR
  rw [this]; rfl
theorem add_run (x y : Nat) (T : TypeId) (w : World) : ∃ r w', (binOp .add T (.float .f64 x) (.float .f64 y)).run Tryz.prog w = .ok (.float .f64 r) w' ∧ Below w.heap.size w w' ∧ (if nanR r = true then 9221120237041090561 else r) = addF x y := by
  cases h : FloatKind.f64.format.add x y with
  | some r => exact ⟨r, w, run_float_arith w .add T .f64 x y r h, Below.refl _ _, by unfold addF; rw [h]⟩
  | none =>
    refine ⟨Question.cut (.nanBits .f64 x y) (w.tape w.drawn (.nanBits .f64 x y)), w.drew, ?_, Below.drew (Below.refl _ _), ?_⟩
    · simp [binOp, Op.floatArith, h, Question.forced]
    · exact (if_pos (nan_cut _)).trans (by unfold addF; rw [h])
theorem adAt1 (i j : Int) (w : World) : Calls Tryz.prog 120 #[.int .i64 i, .iface 95 (.int .i64 j)] w fun e w' => e = .returned (.tuple #[.iface 95 (.int .i64 (wrap64 (i + j))), .int .i64 0]) ∧ Below w.heap.size w w' := by
  have h1 : ∀ w : World, (Instr.typeAssert (.iface 95 (.int .i64 j)) 20 95 true).run Tryz.prog w = .ok (.tuple #[.int .i64 j, .bool true]) w := fun _ => by kernel_rfl
  go_enter Tryz.func120, Tryz.ntmps120
  go_wp2
  go_ret2
  exact ⟨rfl, Below.refl _ _⟩
theorem adAt1A (i : Int) (w : World) : Calls Tryz.prog 120 #[.int .i64 i, .nilIface] w fun e w' => e = .returned (.tuple #[.nilIface, .int .i64 15]) ∧ Below w.heap.size w w' := by
  have h1 : ∀ w : World, (Instr.typeAssert .nilIface 20 95 true).run Tryz.prog w = .ok (.tuple #[.int .i64 0, .bool false]) w := fun _ => by kernel_rfl
  go_enter Tryz.func120, Tryz.ntmps120
  go_wp2
  go_ret2
  exact ⟨rfl, Below.refl _ _⟩
theorem adAt1B (i : Int) (T : TypeId) (q : Value) (hT : T ≠ 95) (w : World) : Calls Tryz.prog 120 #[.int .i64 i, .iface T q] w fun e w' => e = .returned (.tuple #[.nilIface, .int .i64 15]) ∧ Below w.heap.size w w' := by
  have h1 : ∀ w : World, (Instr.typeAssert (.iface T q) 20 95 true).run Tryz.prog w = .ok (.tuple #[.int .i64 0, .bool false]) w := fun w => asto_no Tryz.underlying95 (fun m h => by cases h) (by kernel_rfl) hT
  go_enter Tryz.func120, Tryz.ntmps120
  go_wp2
  go_ret2
  exact ⟨rfl, Below.refl _ _⟩
theorem frombits9 (u : Int) (w : World) : (callFunc 31 #[.int .u64 u]).run Tryz.prog w = .ok (.value (.float .f64 u.toNat)) w := by kernel_rfl
set_option maxRecDepth 100000 in
set_option maxHeartbeats 1000000 in
theorem adAt3 (x y : Nat) (w : World) : Calls Tryz.prog 126 #[.float .f64 x, .iface 97 (.float .f64 y)] w fun e w' => e = .returned (.tuple #[.iface 97 (.float .f64 (addF x y)), .int .i64 0]) ∧ Below w.heap.size w w' := by
  have h1 : ∀ w : World, (Instr.typeAssert (.iface 97 (.float .f64 y)) 20 97 true).run Tryz.prog w = .ok (.tuple #[.float .f64 y, .bool true]) w := fun _ => by kernel_rfl
  have hf := frombits9
  obtain ⟨r, w', h, hb, hr⟩ := add_run x y 97 w
  rw [← hr]
  cases hn : nanR r with
  | true =>
    have hn' : (FloatKind.f64.format.order r r != some Ordering.eq) = true := hn
    rw [if_pos rfl]
    clear hr hn
    go_enter Tryz.func126, Tryz.ntmps126
    go_wp2
    go_ret2
    exact ⟨rfl, hb⟩
  | false =>
    have hn' : (FloatKind.f64.format.order r r != some Ordering.eq) = false := hn
    rw [if_neg (by decide)]
    clear hr hn
    go_enter Tryz.func126, Tryz.ntmps126
    go_wp2
    go_ret2
    exact ⟨rfl, hb⟩
theorem adAt3A (x : Nat) (w : World) : Calls Tryz.prog 126 #[.float .f64 x, .nilIface] w fun e w' => e = .returned (.tuple #[.nilIface, .int .i64 15]) ∧ Below w.heap.size w w' := by
  have h1 : ∀ w : World, (Instr.typeAssert .nilIface 20 97 true).run Tryz.prog w = .ok (.tuple #[.float .f64 0, .bool false]) w := fun _ => by kernel_rfl
  go_enter Tryz.func126, Tryz.ntmps126
  go_wp2
  go_ret2
  exact ⟨rfl, Below.refl _ _⟩
theorem adAt3B (x : Nat) (T : TypeId) (q : Value) (hT : T ≠ 97) (w : World) : Calls Tryz.prog 126 #[.float .f64 x, .iface T q] w fun e w' => e = .returned (.tuple #[.nilIface, .int .i64 15]) ∧ Below w.heap.size w w' := by
  have h1 : ∀ w : World, (Instr.typeAssert (.iface T q) 20 97 true).run Tryz.prog w = .ok (.tuple #[.float .f64 0, .bool false]) w := fun w => asto_no Tryz.underlying97 (fun m h => by cases h) (by kernel_rfl) hT
  go_enter Tryz.func126, Tryz.ntmps126
  go_wp2
  go_ret2
  exact ⟨rfl, Below.refl _ _⟩
end Go.Proofs.YtlmebokbbhjbmaaGreatDoor.Dt
