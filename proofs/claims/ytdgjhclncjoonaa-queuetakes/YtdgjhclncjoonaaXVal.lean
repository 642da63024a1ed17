/- The package's value, with boxes by number, of a valid value's tree: what == is then asked of; the conditions: the tree in memory and valid, of 4096 parts at most, the map and its boxes in memory. -/
import Derived.Test.YtdgjhclncjoonaaXShRow
import Derived.Test.YtdgjhclncjoonaaXRf
import Derived.Laws.IdiomStrings
namespace Go.Proofs.Ytdgjhclncjoonaa.Dt
open Go.RowKit
/-- Nil, or a value in an interface. -/
def Sx (v : Value) : Prop := v = .nilIface ∨ ∃ T z, v = .iface T z
/-- The tree of nil. -/
def nilT : (n : Nat) → Tr n → Prop
  | 0, _ => False
  | _ + 1, t => t.kd = 0
theorem list_two {T : Type} {l : List T} (h : l.length = 2) : ∃ a b, l = [a, b] := by
  match l, h with
  | [a, b], _ => exact ⟨a, b, rfl⟩

end Go.Proofs.Ytdgjhclncjoonaa.Dt
