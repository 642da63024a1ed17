/- The ground over this seat's program: what an assertion answers, which interface values stand for a kind; no condition but those that each theorem names. -/
import Derived.Test.YtkgbpildikjoiaaGreatDoorRows
import Derived.WalkKit
import Derived.WalkSpells
import Derived.WalkLawsBesides
import Derived.Deep.QuietTactic
import Derived.BigQuiet
import Derived.Stop.Asserts
import Derived.Deep.RegionHeld3
import Derived.Lib.Hide
import Derived.Lib.ConvBytes
import Derived.Lib.AtoiErrMem
import Derived.Laws.IdiomStrings
import Derived.Test.YtkgbpildikjoiaaGreatDoorPure
namespace Go.Proofs.YtkgbpildikjoiaaGreatDoor
open Go.RowKit

/-- An assertion to a type that is no interface. -/
theorem assert_to {P : Program} {t x asserted : TypeId} {d : TypeDesc} {v z : Value} {w : World}
    (hU : P.underlying asserted = some d) (hd : ∀ m, d ≠ .interface m) (hz : (zeroValue asserted).run P w = .ok z w) :
    (Instr.typeAssert (.iface t v) x asserted true).run P w = .ok (.tuple #[if t = asserted then v else z, .bool (decide (t = asserted))]) w := by
  cases d with
  | interface m => exact absurd rfl (hd m)
  | _ => by_cases h : t = asserted <;> simp [Instr.typeAssert, run_underlying hU, hz, h]

theorem assert_nil {P : Program} {x asserted : TypeId} {d : TypeDesc} {z : Value} {w : World}
    (hU : P.underlying asserted = some d) (hz : (zeroValue asserted).run P w = .ok z w) :
    (Instr.typeAssert .nilIface x asserted true).run P w = .ok (.tuple #[z, .bool false]) w := by
  cases d <;> simp [Instr.typeAssert, run_underlying hU, hz]

/-- The type of a kind. -/
def tyk (k : Int) : Nat :=
  if k = 1 then 108 else if k = 2 then 109 else if k = 3 then 111 else if k = 4 then 113 else if k = 5 then 114 else if k = 6 then 115 else if k = 7 then 116
  else if k = 8 then 118 else if k = 9 then 122 else if k = 10 then 124 else if k = 11 then 125 else if k = 12 then 125 else 127

/-- An interface value of some type, or nil. -/
def Sx (v : Value) : Prop := v = .nilIface ∨ ∃ T z, v = .iface T z

/-- An interface value of kind k: its type, and its shape where it is a struct or a pointer. -/
def Kd (k : Int) (u : Value) : Prop :=
  ((k < 1 ∨ 13 < k) ∧ u = .nilIface) ∨ (1 ≤ k ∧ k ≤ 13 ∧ ∃ v, u = .iface (tyk k) v ∧ (k = 9 → ∃ a b, v = .agg #[a, b] ∧ Sx a ∧ Sx b) ∧ (k = 10 → ∃ c s, v = .agg #[.int .i64 c, .string s]) ∧ (k = 11 → ∃ a, v = .pointer (some a)) ∧ (k = 12 → v = .pointer none) ∧ (k = 13 → v = .agg #[]))

theorem Kd.plain (k : Int) (v : Value) (h1 : 1 ≤ k) (h2 : k ≤ 8) : Kd k (.iface (tyk k) v) := .inr ⟨h1, by omega, v, rfl, fun h => by omega, fun h => by omega, fun h => by omega, fun h => by omega, fun h => by omega⟩
theorem Kd.pair (a b : Value) (ha : Sx a) (hb : Sx b) : Kd 9 (.iface 122 (.agg #[a, b])) := .inr ⟨by decide, by decide, _, rfl, fun _ => ⟨a, b, rfl, ha, hb⟩, fun h => by omega, fun h => by omega, fun h => by omega, fun h => by omega⟩
theorem Kd.fail (c : Int) (s : ByteArray) : Kd 10 (.iface 124 (.agg #[.int .i64 c, .string s])) := .inr ⟨by decide, by decide, _, rfl, fun h => by omega, fun _ => ⟨c, s, rfl⟩, fun h => by omega, fun h => by omega, fun h => by omega⟩
theorem Kd.ptr (a : Addr) : Kd 11 (.iface 125 (.pointer (some a))) := .inr ⟨by decide, by decide, _, rfl, fun h => by omega, fun h => by omega, fun _ => ⟨a, rfl⟩, fun h => by omega, fun h => by omega⟩
theorem Kd.nilp : Kd 12 (.iface 125 (.pointer none)) := .inr ⟨by decide, by decide, _, rfl, fun h => by omega, fun h => by omega, fun h => by omega, fun _ => rfl, fun h => by omega⟩
theorem Kd.unit : Kd 13 (.iface 127 (.agg #[])) := .inr ⟨by decide, by decide, _, rfl, fun h => by omega, fun h => by omega, fun h => by omega, fun h => by omega, fun _ => rfl⟩

theorem Kd.cases {k : Int} {u : Value} (h : Kd k u) :
    ((k < 1 ∨ 13 < k) ∧ u = .nilIface) ∨ (k = 1 ∧ ∃ v, u = .iface 108 v) ∨ (k = 2 ∧ ∃ v, u = .iface 109 v) ∨ (k = 3 ∧ ∃ v, u = .iface 111 v) ∨ (k = 4 ∧ ∃ v, u = .iface 113 v) ∨ (k = 5 ∧ ∃ v, u = .iface 114 v) ∨ (k = 6 ∧ ∃ v, u = .iface 115 v) ∨ (k = 7 ∧ ∃ v, u = .iface 116 v)
    ∨ (k = 8 ∧ ∃ v, u = .iface 118 v) ∨ (k = 9 ∧ ∃ a b, u = .iface 122 (.agg #[a, b]) ∧ Sx a ∧ Sx b) ∨ (k = 10 ∧ ∃ c s, u = .iface 124 (.agg #[.int .i64 c, .string s])) ∨ (k = 11 ∧ ∃ a, u = .iface 125 (.pointer (some a))) ∨ (k = 12 ∧ u = .iface 125 (.pointer none)) ∨ (k = 13 ∧ u = .iface 127 (.agg #[])) := by
  rcases h with h | ⟨h1, h2, v, hu, h9, h10, h11, h12, h13⟩
  · exact .inl h
  · right
    have : k = 1 ∨ k = 2 ∨ k = 3 ∨ k = 4 ∨ k = 5 ∨ k = 6 ∨ k = 7 ∨ k = 8 ∨ k = 9 ∨ k = 10 ∨ k = 11 ∨ k = 12 ∨ k = 13 := by omega
    rcases this with rfl | rfl | rfl | rfl | rfl | rfl | rfl | rfl | rfl | rfl | rfl | rfl | rfl
    · exact .inl ⟨rfl, v, hu⟩
    · exact .inr (.inl ⟨rfl, v, hu⟩)
    · exact .inr (.inr (.inl ⟨rfl, v, hu⟩))
    · exact .inr (.inr (.inr (.inl ⟨rfl, v, hu⟩)))
    · exact .inr (.inr (.inr (.inr (.inl ⟨rfl, v, hu⟩))))
    · exact .inr (.inr (.inr (.inr (.inr (.inl ⟨rfl, v, hu⟩)))))
    · exact .inr (.inr (.inr (.inr (.inr (.inr (.inl ⟨rfl, v, hu⟩))))))
    · exact .inr (.inr (.inr (.inr (.inr (.inr (.inr (.inl ⟨rfl, v, hu⟩)))))))
    · obtain ⟨a, b, rfl, ha, hb⟩ := h9 rfl
      exact .inr (.inr (.inr (.inr (.inr (.inr (.inr (.inr (.inl ⟨rfl, a, b, hu, ha, hb⟩))))))))
    · obtain ⟨c, s, rfl⟩ := h10 rfl
      exact .inr (.inr (.inr (.inr (.inr (.inr (.inr (.inr (.inr (.inl ⟨rfl, c, s, hu⟩)))))))))
    · obtain ⟨a, rfl⟩ := h11 rfl
      exact .inr (.inr (.inr (.inr (.inr (.inr (.inr (.inr (.inr (.inr (.inl ⟨rfl, a, hu⟩))))))))))
    · obtain rfl := h12 rfl
      exact .inr (.inr (.inr (.inr (.inr (.inr (.inr (.inr (.inr (.inr (.inr (.inl ⟨rfl, hu⟩)))))))))))
    · obtain rfl := h13 rfl
      exact .inr (.inr (.inr (.inr (.inr (.inr (.inr (.inr (.inr (.inr (.inr (.inr ⟨rfl, hu⟩)))))))))))
theorem ret_b {a b : Bool} (h : a = b) : Ending.returned (.bool a) = .returned (.bool b) := by rw [h]
theorem below1 (w : World) (o : Obj) : Below w.heap.size w (w.alloc o) := (Below.refl _ w).alloc (Nat.le_refl _) _
theorem below2 (w : World) (o p : Obj) : Below w.heap.size w ((w.alloc o).alloc p) := ((Below.refl _ w).alloc (Nat.le_refl _) _).alloc (by simp) _
end Go.Proofs.YtkgbpildikjoiaaGreatDoor
