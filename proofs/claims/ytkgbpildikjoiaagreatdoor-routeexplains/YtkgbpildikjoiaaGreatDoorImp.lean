/- The package's Implements: whether the kind has all the interface's methods; no condition. -/
import Derived.Test.YtkgbpildikjoiaaGreatDoorTyp
namespace Go.Proofs.YtkgbpildikjoiaaGreatDoor
open Go.RowKit

/-- A contract, held against an earlier world. -/
theorem since {P : Program} {f : Nat} {args : Array Value} {w wx : World} {R : Ending → Prop} (h : Calls P f args wx fun e w' => R e ∧ Below wx.heap.size wx w') (hx : Below w.heap.size w wx) : Calls P f args wx fun e w' => R e ∧ Below w.heap.size w w' :=
  h.mono fun _ _ ⟨a, b⟩ => ⟨a, hx.trans (b.mono hx.size)⟩
theorem fld0 (Q : TypeId) (m : Int) (w : World) : (Instr.field 147 (.agg #[.iface Q (.agg #[]), .int .u8 m]) 0).run Tryz.prog w = .ok (.iface Q (.agg #[])) w := by kernel_rfl

/-- The question of type Q is asked by function F. -/
def Meth (Q F : Nat) : Prop := (∀ w : World, (method 360 Q (.agg #[]) "conduit/want.holds").run Tryz.prog w = .ok (F, .agg #[]) w) ∧ ∀ (args : Array Value) (w : World), (callFunc F args).run Tryz.prog w = .ok (.enter F args) w

/-- Every interface's question is asked by some function. -/
theorem face_asks (f : Int) : ∃ F, Meth (qfc f) F ∧ Asks F (fun k => impl k f) := by
  by_cases h : f < 0 ∨ 9 < f
  · have hq : qfc f = 178 := by
      unfold qfc
      rw [if_neg (show ¬ f = 0 by omega)]
      rw [if_neg (show ¬ f = 1 by omega)]
      rw [if_neg (show ¬ f = 2 by omega)]
      rw [if_neg (show ¬ f = 3 by omega)]
      rw [if_neg (show ¬ f = 4 by omega)]
      rw [if_neg (show ¬ f = 5 by omega)]
      rw [if_neg (show ¬ f = 6 by omega)]
      rw [if_neg (show ¬ f = 7 by omega)]
      rw [if_neg (show ¬ f = 8 by omega)]
      rw [if_neg (show ¬ f = 9 by omega)]
    rw [hq]
    refine ⟨174, ⟨fun _ => by kernel_rfl, fun _ _ => by kernel_rfl⟩, ?_⟩
    have : (fun k => impl k f) = fun _ => false := funext fun k => impl_none k f h
    rw [this]
    exact typeNo_asks
  have hk : f = 0 ∨ f = 1 ∨ f = 2 ∨ f = 3 ∨ f = 4 ∨ f = 5 ∨ f = 6 ∨ f = 7 ∨ f = 8 ∨ f = 9 := by omega
  rcases hk with rfl | rfl | rfl | rfl | rfl | rfl | rfl | rfl | rfl | rfl
  · exact ⟨176, ⟨fun _ => by kernel_rfl, fun _ _ => by kernel_rfl⟩, face0_asks⟩
  · exact ⟨178, ⟨fun _ => by kernel_rfl, fun _ _ => by kernel_rfl⟩, face1_asks⟩
  · exact ⟨180, ⟨fun _ => by kernel_rfl, fun _ _ => by kernel_rfl⟩, face2_asks⟩
  · exact ⟨182, ⟨fun _ => by kernel_rfl, fun _ _ => by kernel_rfl⟩, face3_asks⟩
  · exact ⟨184, ⟨fun _ => by kernel_rfl, fun _ _ => by kernel_rfl⟩, face4_asks⟩
  · exact ⟨186, ⟨fun _ => by kernel_rfl, fun _ _ => by kernel_rfl⟩, face5_asks⟩
  · exact ⟨188, ⟨fun _ => by kernel_rfl, fun _ _ => by kernel_rfl⟩, face6_asks⟩
  · exact ⟨190, ⟨fun _ => by kernel_rfl, fun _ _ => by kernel_rfl⟩, face7_asks⟩
  · exact ⟨192, ⟨fun _ => by kernel_rfl, fun _ _ => by kernel_rfl⟩, face8_asks⟩
  · exact ⟨194, ⟨fun _ => by kernel_rfl, fun _ _ => by kernel_rfl⟩, face9_asks⟩
/-- Of which kinds the type of a kind is asked with yes. -/
def tkd (m k : Int) : Bool := decide (1 ≤ m ∧ m ≤ 13) && (k == m || (m == 11 && k == 12))
/-- Every type's question is asked by some function. -/
theorem type_asks (m : Int) : ∃ F, Meth (qty m) F ∧ Asks F (tkd m) := by
  by_cases h : m < 1 ∨ 13 < m
  · have hq : qty m = 178 := by
      unfold qty
      rw [if_neg (show ¬ m = 1 by omega)]
      rw [if_neg (show ¬ m = 2 by omega)]
      rw [if_neg (show ¬ m = 3 by omega)]
      rw [if_neg (show ¬ m = 4 by omega)]
      rw [if_neg (show ¬ m = 5 by omega)]
      rw [if_neg (show ¬ m = 6 by omega)]
      rw [if_neg (show ¬ m = 7 by omega)]
      rw [if_neg (show ¬ m = 8 by omega)]
      rw [if_neg (show ¬ m = 9 by omega)]
      rw [if_neg (show ¬ m = 10 by omega)]
      rw [if_neg (show ¬ m = 11 by omega)]
      rw [if_neg (show ¬ m = 12 by omega)]
      rw [if_neg (show ¬ m = 13 by omega)]
    rw [hq]
    refine ⟨174, ⟨fun _ => by kernel_rfl, fun _ _ => by kernel_rfl⟩, ?_⟩
    have : tkd m = fun _ => false := funext fun k => by
      unfold tkd
      rw [decide_eq_false (by omega)]
      rfl
    rw [this]
    exact typeNo_asks
  have hk : m = 1 ∨ m = 2 ∨ m = 3 ∨ m = 4 ∨ m = 5 ∨ m = 6 ∨ m = 7 ∨ m = 8 ∨ m = 9 ∨ m = 10 ∨ m = 11 ∨ m = 12 ∨ m = 13 := by omega
  rcases hk with rfl | rfl | rfl | rfl | rfl | rfl | rfl | rfl | rfl | rfl | rfl | rfl | rfl
  · refine ⟨148, ⟨fun _ => by kernel_rfl, fun _ _ => by kernel_rfl⟩, ?_⟩
    have : tkd 1 = fun k => k == 1 := funext fun k => by simp [tkd]
    rw [this]; exact type1_asks
  · refine ⟨150, ⟨fun _ => by kernel_rfl, fun _ _ => by kernel_rfl⟩, ?_⟩
    have : tkd 2 = fun k => k == 2 := funext fun k => by simp [tkd]
    rw [this]; exact type2_asks
  · refine ⟨152, ⟨fun _ => by kernel_rfl, fun _ _ => by kernel_rfl⟩, ?_⟩
    have : tkd 3 = fun k => k == 3 := funext fun k => by simp [tkd]
    rw [this]; exact type3_asks
  · refine ⟨154, ⟨fun _ => by kernel_rfl, fun _ _ => by kernel_rfl⟩, ?_⟩
    have : tkd 4 = fun k => k == 4 := funext fun k => by simp [tkd]
    rw [this]; exact type4_asks
  · refine ⟨156, ⟨fun _ => by kernel_rfl, fun _ _ => by kernel_rfl⟩, ?_⟩
    have : tkd 5 = fun k => k == 5 := funext fun k => by simp [tkd]
    rw [this]; exact type5_asks
  · refine ⟨158, ⟨fun _ => by kernel_rfl, fun _ _ => by kernel_rfl⟩, ?_⟩
    have : tkd 6 = fun k => k == 6 := funext fun k => by simp [tkd]
    rw [this]; exact type6_asks
  · refine ⟨160, ⟨fun _ => by kernel_rfl, fun _ _ => by kernel_rfl⟩, ?_⟩
    have : tkd 7 = fun k => k == 7 := funext fun k => by simp [tkd]
    rw [this]; exact type7_asks
  · refine ⟨162, ⟨fun _ => by kernel_rfl, fun _ _ => by kernel_rfl⟩, ?_⟩
    have : tkd 8 = fun k => k == 8 := funext fun k => by simp [tkd]
    rw [this]; exact type8_asks
  · refine ⟨164, ⟨fun _ => by kernel_rfl, fun _ _ => by kernel_rfl⟩, ?_⟩
    have : tkd 9 = fun k => k == 9 := funext fun k => by simp [tkd]
    rw [this]; exact type9_asks
  · refine ⟨166, ⟨fun _ => by kernel_rfl, fun _ _ => by kernel_rfl⟩, ?_⟩
    have : tkd 10 = fun k => k == 10 := funext fun k => by simp [tkd]
    rw [this]; exact type10_asks
  · refine ⟨168, ⟨fun _ => by kernel_rfl, fun _ _ => by kernel_rfl⟩, ?_⟩
    have : tkd 11 = fun k => k == 11 || k == 12 := funext fun k => by simp [tkd]
    rw [this]; exact type11_asks
  · refine ⟨170, ⟨fun _ => by kernel_rfl, fun _ _ => by kernel_rfl⟩, ?_⟩
    have : tkd 12 = fun k => k == 12 := funext fun k => by simp [tkd]
    rw [this]; exact type12_asks
  · refine ⟨172, ⟨fun _ => by kernel_rfl, fun _ _ => by kernel_rfl⟩, ?_⟩
    have : tkd 13 = fun k => k == 13 := funext fun k => by simp [tkd]
    rw [this]; exact type13_asks
end Go.Proofs.YtkgbpildikjoiaaGreatDoor
