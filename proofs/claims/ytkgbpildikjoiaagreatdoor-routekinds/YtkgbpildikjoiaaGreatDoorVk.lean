/- A valid value's kind is one of the fourteen; the conditions: its tree in memory, and valid. -/
import Derived.Test.YtkgbpildikjoiaaGreatDoorDRv
namespace Go.Proofs.YtkgbpildikjoiaaGreatDoor
open Go.RowKit

/-- A right value's kind is one. -/
theorem kind_in {k i u : Int} {z len : Nat} (h : Dt.okB k i u z len = true) : 0 ≤ k ∧ k ≤ 13 := by
  unfold Dt.okB at h
  by_cases hk : 0 ≤ k ∧ k ≤ 13
  · exact hk
  · rw [if_neg (by omega), if_neg (by omega), if_neg (by omega), if_neg (by omega), if_neg (by omega), if_neg (by omega), if_neg (by omega), if_neg (by omega), if_neg (by omega)] at h
    cases h
theorem valid_kind {w : World} {n : Nat} {d : Dt.Tr n} {k i u : Int} {s : ByteArray} {ad : Option Addr} {len cap : Nat} (h : Dt.Rep w n [.int .i64 k, .int .i64 i, .int .u64 u, .string s, .slice ad len cap] d) (hv : Dt.vB n d = true) : 0 ≤ k ∧ k ≤ 13 := by
  have S := Dt.say 16 n d 1 4096 (by decide) (by decide) (by decide)
  have hr := (S.down hv).1
  match n, d, h with
  | n + 1, d, h =>
    obtain ⟨ad', cap', e, -, -, -, -⟩ := h
    simp only [List.cons.injEq, and_true] at e
    obtain ⟨e0, e1, e2, e3, e4⟩ := e
    simp only [Dt.rgt, Bool.and_eq_true] at hr
    have := kind_in hr.1
    injection e0 with _ e0
    rw [e0]; exact this

end Go.Proofs.YtkgbpildikjoiaaGreatDoor
