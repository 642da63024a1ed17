/- The package's Plain of values without parts: the plain data; no condition. -/
import Derived.Test.YtihmkjlmhjhocaaXRf
import Derived.Test.YtihmkjlmhjhocaaDvN
namespace Go.Proofs.Ytihmkjlmhjhocaa.Dt
open Go.RowKit
/-- The bits of a tree are within 64. -/
def r64 : (n : Nat) → Tr n → Prop
  | 0, _ => False
  | n + 1, t => (0 ≤ t.ut ∧ t.ut < 18446744073709551616) ∧ ∀ s ∈ t.ks, r64 n s
theorem asto_yes {P : Program} {t x : TypeId} {d : TypeDesc} {v z : Value} {w : World} (hU : P.underlying t = some d) (hd : ∀ m, d ≠ .interface m) (hz : (zeroValue t).run P w = .ok z w) : (Instr.typeAssert (.iface t v) x t true).run P w = .ok (.tuple #[v, .bool true]) w := by
  have := assert_to (t := t) (x := x) (v := v) hU hd hz
  simpa using this
theorem asto_no {P : Program} {t x asserted : TypeId} {d : TypeDesc} {v z : Value} {w : World} (hU : P.underlying asserted = some d) (hd : ∀ m, d ≠ .interface m) (hz : (zeroValue asserted).run P w = .ok z w) (hne : t ≠ asserted) : (Instr.typeAssert (.iface t v) x asserted true).run P w = .ok (.tuple #[z, .bool false]) w := by
  have := assert_to (t := t) (x := x) (v := v) hU hd hz
  simpa [hne] using this
end Go.Proofs.Ytihmkjlmhjhocaa.Dt
