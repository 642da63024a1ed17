/- The plain theory, further: covering goes on, and what covers a filter has all that it has; no run of the model in this text. -/
import Derived.Test.YtnlplnlclnbdiaaDoorRd
namespace Go.Proofs.YtnlplnlclnbdiaaDoor
open Tp

theorem spr_ne {s : Bs} : spr s ≠ [] := by
  unfold spr
  split
  · simp
  · split
    · simp
    · exact lvs_ne s

theorem covers_iff {f g : Bs} : covers f g = true ↔ isFilter f = true ∧ isFilter g = true ∧ ¬ ((spr f).headD [] = pl ∧ dol ((spr g).headD []) = true) ∧ cov (spr f) (spr g) = true := by
  rw [covers_ref, coversR]
  simp only [Bool.and_eq_true, Bool.not_eq_true', Bool.and_eq_false_iff, decide_eq_false_iff_not]
  constructor
  · rintro ⟨⟨⟨h1, h2⟩, h3⟩, h4⟩
    refine ⟨h1, h2, fun h => ?_, h4⟩
    rcases h3 with h3 | h3
    · exact h3 h.1
    · rw [h.2] at h3; cases h3
  · rintro ⟨h1, h2, h3, h4⟩
    refine ⟨⟨⟨h1, h2⟩, ?_⟩, h4⟩
    by_cases hp : (spr f).headD [] = pl
    · right
      cases hd : dol ((spr g).headD []) with
      | false => rfl
      | true => exact absurd ⟨hp, hd⟩ h3
    · exact .inl hp

theorem cov_head {G H : List Bs} (h : cov G H = true) (nG : G ≠ []) (nH : H ≠ []) (hg : G.headD [] ≠ ha) : G.headD [] = pl ∨ G.headD [] = H.headD [] := by
  cases G with
  | nil => exact absurd rfl nG
  | cons y G =>
    cases H with
    | nil => exact absurd rfl nH
    | cons z H =>
      simp only [List.headD_cons] at hg ⊢
      simp only [cov, if_neg hg] at h
      split at h
      · cases h
      · split at h
        · assumption
        · cases h

theorem covers_trans {f g h : Bs} (h1 : covers f g = true) (h2 : covers g h = true) : covers f h = true := by
  rw [covers_iff] at *
  obtain ⟨a1, a2, a3, a4⟩ := h1
  obtain ⟨b1, b2, b3, b4⟩ := h2
  refine ⟨a1, b2, fun hh => ?_, cov_trans _ _ _ a4 b4⟩
  rcases cov_head b4 spr_ne spr_ne (spr_gd b1).2.1 with e | e
  · exact b3 ⟨e, hh.2⟩
  · exact a3 ⟨hh.1, by rw [e]; exact hh.2⟩

theorem matches_covers {f g n : Bs} (h1 : covers f g = true) (h2 : matches' g n = true) : matches' f n = true := by
  unfold matches' at *
  simp only [Bool.and_eq_true] at *
  exact ⟨h2.1, covers_trans h1 h2.2⟩

end Go.Proofs.YtnlplnlclnbdiaaDoor
