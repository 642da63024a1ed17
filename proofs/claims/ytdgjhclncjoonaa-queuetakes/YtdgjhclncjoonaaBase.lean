/- The ground over this seat's program: what an assertion answers, which interface values stand for a kind; no condition but those that each theorem names. -/
import Derived.Test.YtdgjhclncjoonaaRows
import Derived.Test.YtdgjhclncjoonaaPure
import Derived.WalkKit
import Derived.WalkSpells
import Derived.WalkLawsBesides
import Derived.Deep.QuietTactic
import Derived.BigQuiet
import Derived.Stop.Asserts
import Derived.Deep.RegionHeld3
import Derived.Lib.Hide
import Derived.Laws.IdiomStrings
namespace Go.Proofs.Ytdgjhclncjoonaa
open Go.RowKit

/-- An assertion to a type that is no interface. -/
theorem assert_to {P : Program} {t x asserted : TypeId} {d : TypeDesc} {v z : Value} {w : World}
    (hU : P.underlying asserted = some d) (hd : ∀ m, d ≠ .interface m) (hz : (zeroValue asserted).run P w = .ok z w) :
    (Instr.typeAssert (.iface t v) x asserted true).run P w = .ok (.tuple #[if t = asserted then v else z, .bool (decide (t = asserted))]) w := by
  cases d with
  | interface m => exact absurd rfl (hd m)
  | _ => by_cases h : t = asserted <;> simp [Instr.typeAssert, run_underlying hU, hz, h]

theorem assert_nil {P : Program} {x asserted : TypeId} {d : TypeDesc} {z : Value} {w : World}
    (hU : P.underlying asserted = some d) (hz : (zeroValue asserted).run P w = .ok z w) :
    (Instr.typeAssert .nilIface x asserted true).run P w = .ok (.tuple #[z, .bool false]) w := by
  cases d <;> simp [Instr.typeAssert, run_underlying hU, hz]

/-- An interface value of some type, or nil. -/
def Sx (v : Value) : Prop := v = .nilIface ∨ ∃ T z, v = .iface T z

theorem ret_b {a b : Bool} (h : a = b) : Ending.returned (.bool a) = .returned (.bool b) := by rw [h]
theorem below1 (w : World) (o : Obj) : Below w.heap.size w (w.alloc o) := (Below.refl _ w).alloc (Nat.le_refl _) _
theorem below2 (w : World) (o p : Obj) : Below w.heap.size w ((w.alloc o).alloc p) := ((Below.refl _ w).alloc (Nat.le_refl _) _).alloc (by simp) _
end Go.Proofs.Ytdgjhclncjoonaa
