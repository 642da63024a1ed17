/- The package's Implements: whether the kind has all the interface's methods; no condition. -/
import Derived.Test.YthamafijjflfbaaGreatJbb
namespace Go.Proofs.YthamafijjflfbaaGreat
open Go.RowKit

/-- A contract, held against an earlier world. -/
theorem since {P : Program} {f : Nat} {args : Array Value} {w wx : World} {R : Ending → Prop} (h : Calls P f args wx fun e w' => R e ∧ Below wx.heap.size wx w') (hx : Below w.heap.size w wx) : Calls P f args wx fun e w' => R e ∧ Below w.heap.size w w' :=
  h.mono fun _ _ ⟨a, b⟩ => ⟨a, hx.trans (b.mono hx.size)⟩
theorem sinceKd {P : Program} {f : Nat} {args : Array Value} {w wx : World} {k : Int} (h : Calls P f args wx fun e w' => ∃ u, e = .returned u ∧ Kd k u ∧ Below wx.heap.size wx w') (hx : Below w.heap.size w wx) : Calls P f args wx fun e w' => ∃ u, e = .returned u ∧ Kd k u ∧ Below w.heap.size w w' :=
  h.mono fun _ _ ⟨u, a, c, b⟩ => ⟨u, a, c, hx.trans (b.mono hx.size)⟩
theorem fld0 (Q : TypeId) (m : Int) (w : World) : (Instr.field 125 (.agg #[.iface Q (.agg #[]), .int .u8 m]) 0).run Tryz.prog w = .ok (.iface Q (.agg #[])) w := by kernel_rfl

/-- The question of type Q is asked by function F. -/
def Meth (Q F : Nat) : Prop := (∀ w : World, (method 320 Q (.agg #[]) "conduit/want.holds").run Tryz.prog w = .ok (F, .agg #[]) w) ∧ ∀ (args : Array Value) (w : World), (callFunc F args).run Tryz.prog w = .ok (.enter F args) w

/-- Of which kinds the type of a kind is asked with yes. -/
def tkd (m k : Int) : Bool := decide (1 ≤ m ∧ m ≤ 13) && (k == m || (m == 11 && k == 12))
end Go.Proofs.YthamafijjflfbaaGreat
