/- The == of two values that the package makes of trees, with boxes by number: what the document says, or the panic of a type that is not comparable; the conditions: the trees valid, the boxes alive and apart. -/
import Derived.Test.YtdgjhclncjoonaaXSame
import Derived.Laws.StructEq
import Derived.LaidEql
namespace Go.Proofs.Ytdgjhclncjoonaa.Dt
open Go.RowKit
theorem q0 (d : Nat) (w : World) : (Op.equalIn (d + 2) 20 .nilIface .nilIface).run Try.prog w = .ok true w := by kernel_rfl
theorem qnv (d : Nat) (t : TypeId) (x : Value) (w : World) : (Op.equalIn (d + 2) 20 .nilIface (.iface t x)).run Try.prog w = .ok false w := by kernel_rfl
theorem qvn (d : Nat) (t : TypeId) (x : Value) (w : World) : (Op.equalIn (d + 2) 20 (.iface t x) .nilIface).run Try.prog w = .ok false w := by kernel_rfl
theorem qtt (d : Nat) (t u : TypeId) (x y : Value) (w : World) (h : t ≠ u) : (Op.equalIn (d + 2) 20 (.iface t x) (.iface u y)).run Try.prog w = .ok false w := by
  simp [Op.equalIn, run_underlying Try.underlying20, h]
theorem pt2 (x y : Value) (w : World) : (part 2 #[x, y] 0).run Try.prog w = .ok x w := by kernel_rfl
theorem pt9 (x y : Value) (w : World) : (part 9 #[x, y] 1).run Try.prog w = .ok y w := by kernel_rfl
theorem pt20 (x y : Value) (w : World) : (part 20 #[x, y] 0).run Try.prog w = .ok x w := by kernel_rfl
theorem pt20' (x y : Value) (w : World) : (part 20 #[x, y] 1).run Try.prog w = .ok y w := by kernel_rfl
/-- The document's Equal. -/
def eqP {T U : Type} (c : T → U → Bool × Int) : List T → List U → Bool × Int
  | [a0, a1], [b0, b1] => if (c a0 b0).2 ≠ 0 ∨ (c a0 b0).1 = false then (false, (c a0 b0).2) else c a1 b1
  | _, _ => (false, 0)
def eqT : (n m : Nat) → Tr n → Tr m → Bool × Int
  | 0, _, a, _ => a.elim
  | _ + 1, 0, _, b => b.elim
  | n + 1, m + 1, a, b =>
    if a.kd ≠ b.kd then (false, 0) else if a.kd = 7 ∨ a.kd = 8 then (false, 10) else if a.kd = 3 then (FloatKind.f64.format.order a.ut.toNat b.ut.toNat == some .eq, 0)
    else if a.kd = 9 then eqP (eqT n m) a.ks b.ks else (a.it == b.it && a.tx == b.tx, 0)

theorem ba_beq (s z : ByteArray) : (s == z) = true ↔ s = z := by
  have : (s == z) = (s.data == z.data) := by cases s; cases z; rfl
  rw [this, beq_iff_eq]
  exact ⟨ByteArray.ext, fun h => h ▸ rfl⟩
theorem ok_plain {k i u : Int} {sz len : Nat} (h : okB k i u sz len = true) : (k = 6 → i = 0 ∨ i = 1) ∧ (k = 9 → len = 2) ∧ (k ≠ 1 → k ≠ 2 → k ≠ 6 → k ≠ 10 → k ≠ 11 → i = 0) ∧ (k ≠ 4 → k ≠ 5 → k ≠ 7 → k ≠ 10 → sz = 0) ∧ 0 ≤ k ∧ k ≤ 13 := by
  unfold okB at h
  repeat' split at h
  all_goals (try simp only [decide_eq_true_eq] at h)
  all_goals (first | omega | cases h)
theorem tx_of {n m : Nat} {a : Tr (n + 1)} {b : Tr (m + 1)} (h1 : a.tx.size = 0) (h2 : b.tx.size = 0) : a.tx = b.tx := by
  rw [ByteArray.size_eq_zero_iff.1 h1, ByteArray.size_eq_zero_iff.1 h2]

end Go.Proofs.Ytdgjhclncjoonaa.Dt
