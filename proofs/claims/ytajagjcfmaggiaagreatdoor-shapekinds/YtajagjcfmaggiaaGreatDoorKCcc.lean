/- The package's Implements: whether the kind has all the interface's methods; no condition. -/
import Derived.Test.YtajagjcfmaggiaaGreatDoorKCbj
namespace Go.Proofs.YtajagjcfmaggiaaGreatDoor
open Go.RowKit

/-- A contract, held against an earlier world. -/
theorem since {P : Program} {f : Nat} {args : Array Value} {w wx : World} {R : Ending → Prop} (h : Calls P f args wx fun e w' => R e ∧ Below wx.heap.size wx w') (hx : Below w.heap.size w wx) : Calls P f args wx fun e w' => R e ∧ Below w.heap.size w w' :=
  h.mono fun _ _ ⟨a, b⟩ => ⟨a, hx.trans (b.mono hx.size)⟩
theorem fld0 (Q : TypeId) (m : Int) (w : World) : (Instr.field 87 (.agg #[.iface Q (.agg #[]), .int .u8 m]) 0).run Tryz.prog w = .ok (.iface Q (.agg #[])) w := by kernel_rfl

/-- The question of type Q is asked by function F. -/
def Meth (Q F : Nat) : Prop := (∀ w : World, (method 367 Q (.agg #[]) "conduit/want.holds").run Tryz.prog w = .ok (F, .agg #[]) w) ∧ ∀ (args : Array Value) (w : World), (callFunc F args).run Tryz.prog w = .ok (.enter F args) w

/-- Every interface's question is asked by some function. -/
theorem face_asks (f : Int) : ∃ F, Meth (qfc f) F ∧ Asks F (fun k => impl k f) := by
  by_cases h : f < 0 ∨ 9 < f
  · have hq : qfc f = 118 := by
      unfold qfc
      rw [if_neg (show ¬ f = 0 by omega)]
      rw [if_neg (show ¬ f = 1 by omega)]
      rw [if_neg (show ¬ f = 2 by omega)]
      rw [if_neg (show ¬ f = 3 by omega)]
      rw [if_neg (show ¬ f = 4 by omega)]
      rw [if_neg (show ¬ f = 5 by omega)]
      rw [if_neg (show ¬ f = 6 by omega)]
      rw [if_neg (show ¬ f = 7 by omega)]
      rw [if_neg (show ¬ f = 8 by omega)]
      rw [if_neg (show ¬ f = 9 by omega)]
    rw [hq]
    refine ⟨188, ⟨fun _ => by kernel_rfl, fun _ _ => by kernel_rfl⟩, ?_⟩
    have : (fun k => impl k f) = fun _ => false := funext fun k => impl_none k f h
    rw [this]
    exact typeNo_asks
  have hk : f = 0 ∨ f = 1 ∨ f = 2 ∨ f = 3 ∨ f = 4 ∨ f = 5 ∨ f = 6 ∨ f = 7 ∨ f = 8 ∨ f = 9 := by omega
  rcases hk with rfl | rfl | rfl | rfl | rfl | rfl | rfl | rfl | rfl | rfl
  · exact ⟨189, ⟨fun _ => by kernel_rfl, fun _ _ => by kernel_rfl⟩, face0_asks⟩
  · exact ⟨191, ⟨fun _ => by kernel_rfl, fun _ _ => by kernel_rfl⟩, face1_asks⟩
  · exact ⟨193, ⟨fun _ => by kernel_rfl, fun _ _ => by kernel_rfl⟩, face2_asks⟩
  · exact ⟨195, ⟨fun _ => by kernel_rfl, fun _ _ => by kernel_rfl⟩, face3_asks⟩
  · exact ⟨197, ⟨fun _ => by kernel_rfl, fun _ _ => by kernel_rfl⟩, face4_asks⟩
  · exact ⟨199, ⟨fun _ => by kernel_rfl, fun _ _ => by kernel_rfl⟩, face5_asks⟩
  · exact ⟨201, ⟨fun _ => by kernel_rfl, fun _ _ => by kernel_rfl⟩, face6_asks⟩
  · exact ⟨203, ⟨fun _ => by kernel_rfl, fun _ _ => by kernel_rfl⟩, face7_asks⟩
  · exact ⟨205, ⟨fun _ => by kernel_rfl, fun _ _ => by kernel_rfl⟩, face8_asks⟩
  · exact ⟨207, ⟨fun _ => by kernel_rfl, fun _ _ => by kernel_rfl⟩, face9_asks⟩
/-- Of which kinds the type of a kind is asked with yes. -/
def tkd (m k : Int) : Bool := decide (1 ≤ m ∧ m ≤ 13) && (k == m || (m == 11 && k == 12))
end Go.Proofs.YtajagjcfmaggiaaGreatDoor
