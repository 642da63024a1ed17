/- The five cells of a tree in memory; no condition. -/
import Derived.Test.YtoagofdmbapfeabDoorCount
namespace Go.Proofs.YtoagofdmbapfeabDoor
open Go.RowKit
theorem rep_shape {w : World} {n : Nat} {v0 v1 v2 v3 v4 : Value} {t : Tr n} (h : Rep w n [v0, v1, v2, v3, v4] t) : ∃ (k i u : Int) (s : ByteArray) (ad : Option Addr) (len cap : Nat), v0 = .int .i64 k ∧ v1 = .int .i64 i ∧ v2 = .int .u64 u ∧ v3 = .string s ∧ v4 = .slice ad len cap := by
  match n, t, h with
  | n + 1, t, h =>
    obtain ⟨ad, cap, e, -, -, -, -⟩ := h
    simp only [List.cons.injEq, and_true] at e
    exact ⟨_, _, _, _, _, _, _, e⟩
end Go.Proofs.YtoagofdmbapfeabDoor
