/- The document's own answers, walked: spread, Match, Covers of the reference, held against what the program answers; what is asked of the world: the two tables of unicode/utf8 as their text lays them. -/
import Derived.Test.YtkgbpildikjoiaaGreatDoorRb
import Derived.Test.YtkgbpildikjoiaaGreatDoorRc
import Derived.Test.YtkgbpildikjoiaaGreatDoorTg
namespace Go.Proofs.YtkgbpildikjoiaaGreatDoor
open Go.RowKit Tp

theorem dol_lvs (n : Bs) : dol ((lvs n).headD []) = dol n := by
  cases n with
  | nil => rfl
  | cons b r =>
    by_cases hb : b = 47
    · subst hb; simp [lvs, dol]
    · simp [lvs, hb, dol]

theorem wc_lvs {n : Bs} (h : wc n = false) : ∀ x ∈ lvs n, wc x = false := by
  intro x hx
  rw [Tp.wc, List.any_eq_false] at h ⊢
  exact fun b hb => h b (mem_lvs hx hb)

theorem name_spr {n : Bs} (h : wc n = false) : spr n = lvs n := by
  unfold spr
  rw [if_neg (fun e => by rw [e] at h; exact absurd h (by decide)), if_neg (fun e => by rw [e] at h; exact absurd h (by decide))]

theorem name_filter {n : Bs} (h : isName n = true) : isFilter n = true := by
  simp only [isName, isFilter, Bool.and_eq_true, Bool.not_eq_true'] at h ⊢
  exact ⟨h.1, fl_name _ (wc_lvs h.2)⟩

theorem agr_cov : ∀ (f g : List Bs), (∀ y ∈ g, y ≠ ha) → agr f g = cov f g
  | [], [], _ => rfl
  | [], y :: g, _ => rfl
  | x :: f, [], _ => by by_cases h : x = ha <;> simp [agr, cov, h]
  | x :: f, y :: g, h => by
    have hy := h y (by simp)
    have ih := agr_cov f g (fun z hz => h z (List.mem_cons_of_mem _ hz))
    by_cases hx : x = ha
    · simp [agr, cov, hx]
    · simp only [agr, cov, hx, hy, if_false, ih]

def matchesR (f n : Bs) : Bool :=
  isFilter f && isName n && !(decide ((lvs f).headD [] = pl ∨ (lvs f).headD [] = ha) && dol n) && agr (lvs f) (lvs n)

theorem match_ref (f n : Bs) : matches' f n = matchesR f n := by
  unfold matches' matchesR
  rw [covers_ref]
  unfold coversR
  cases hn : isName n with
  | false => simp
  | true =>
    rw [name_filter hn]
    cases hf : isFilter f with
    | false => simp
    | true =>
      simp only [Bool.true_and, Bool.and_true]
      have hw : wc n = false := by simp only [isName, Bool.and_eq_true, Bool.not_eq_true'] at hn; exact hn.2
      have hne : n ≠ [] := by simp only [isName, okText, Bool.and_eq_true, decide_eq_true_eq] at hn; exact hn.1.1.1.1
      rw [name_spr hw, dol_lvs]
      have hna : ∀ y ∈ lvs n, y ≠ ha := fun y hy e => by have := wc_lvs hw y hy; rw [e] at this; exact absurd this (by decide)
      obtain ⟨y, r, hyr⟩ : ∃ y r, lvs n = y :: r := by
        cases h : lvs n with
        | nil => exact absurd h (lvs_ne n)
        | cons y r => exact ⟨y, r, rfl⟩
      have hy : y ≠ ha := hna y (by rw [hyr]; simp)
      rw [agr_cov _ _ hna]
      unfold spr
      by_cases h1 : f = ha
      · subst h1
        rw [if_pos rfl, hyr, show lvs ha = [ha] from rfl]
        have e : cov [pl, ha] (y :: r) = true := by
          have : cov [ha] r = true := by cases r <;> simp [cov]
          simp [cov, hy, this]
        rw [e]
        simp [cov]
      · rw [if_neg h1]
        by_cases h2 : f = [47, 35]
        · subst h2
          rw [if_pos rfl, hyr, show lvs [47, 35] = [[], ha] from rfl]
          have e : cov [[], pl, ha] (y :: r) = cov [[], ha] (y :: r) := by
            by_cases hy0 : y = []
            · subst hy0
              cases r with
              | nil =>
                exfalso
                have := glue_lvs n
                rw [hyr, glue_one] at this
                exact hne this.symm
              | cons z t =>
                have hz : z ≠ ha := hna z (by rw [hyr]; simp)
                have : cov [ha] t = true := by cases t <;> simp [cov]
                simp [cov, hz, this]
            · have : ¬ ([] = y) := fun e => hy0 e.symm
              simp [cov, hy, this]
          rw [e]
          rfl
        · rw [if_neg h2]
          have h3 : (lvs f).headD [] ≠ ha := by
            have := (spr_gd hf).2.1
            rwa [spr, if_neg h1, if_neg h2] at this
          have e3 : ((lvs f).headD [] = pl ∨ (lvs f).headD [] = ha) ↔ (lvs f).headD [] = pl := ⟨fun h => h.resolve_right h3, .inl⟩
          rw [decide_eq_decide.2 e3]

end Go.Proofs.YtkgbpildikjoiaaGreatDoor
