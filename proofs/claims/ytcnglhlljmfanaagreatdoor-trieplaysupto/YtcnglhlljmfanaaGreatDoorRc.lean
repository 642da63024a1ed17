/- Does a filter agree with a name, level by level; the row behind its first element. -/
import Derived.Test.YtcnglhlljmfanaaGreatDoorTq
namespace Go.Proofs.YtcnglhlljmfanaaGreatDoor
open Go.RowKit Tp

def agr : List Bs → List Bs → Bool
  | [], n => n.isEmpty
  | x :: f, n => if x = ha then true else match n with
    | [] => false
    | y :: n' => if x = pl ∨ x = y then agr f n' else false

/-- The row behind its first element, as the model's slice expression names it. -/
theorem step_row {w : World} {b o c : Nat} {x : ByteArray} {F : List ByteArray} (h : Row w b o (x :: F)) (hc : F.length + 1 ≤ c) :
    ∃ p, (if c = 1 then some (⟨b, o, none⟩ : Addr) else some ⟨b, o + 1, none⟩) = some ⟨b, p, none⟩ ∧ Row w b p F := by
  by_cases h1 : c = 1
  · refine ⟨o, by rw [if_pos h1], ?_⟩
    have : F = [] := List.length_eq_zero_iff.1 (by omega)
    subst this
    intro j y hy
    simp at hy
  · exact ⟨o + 1, by rw [if_neg h1], h.tail⟩

end Go.Proofs.YtcnglhlljmfanaaGreatDoor
