/- Filters as rows of levels: the hash stands last; no run of the model. -/
import Derived.Test.YtcnglhlljmfanaaGreatDoorTb
namespace Go.Proofs.YtcnglhlljmfanaaGreatDoor
open Tp

/-- The hash stands at the end alone, and no level is a slash. -/
structure Gd (f : List Bs) : Prop where
  ne : f ≠ []
  last : ∀ k, f[k]? = some ha → k + 1 = f.length
  nn : ∀ x ∈ f, x ≠ no

theorem fl_last : ∀ (f : List Bs), fl f = true → ∀ k, f[k]? = some ha → k + 1 = f.length
  | [], _, k, h => by simp at h
  | x :: r, hf, 0, h => by
    simp at h; subst h
    simp [fl] at hf
    subst hf; rfl
  | x :: r, hf, k + 1, h => by
    have h' : r[k]? = some ha := by simpa using h
    by_cases hx : x = ha
    · subst hx; simp [fl] at hf; subst hf; simp at h'
    · simp only [fl, if_neg hx, Bool.and_eq_true] at hf
      have := fl_last r hf.2 k h'
      simp [this]

end Go.Proofs.YtcnglhlljmfanaaGreatDoor
