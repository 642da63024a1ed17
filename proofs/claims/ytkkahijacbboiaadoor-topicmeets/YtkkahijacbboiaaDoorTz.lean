/- The plain theory, further: covering is an order, and what covers a filter meets all that it meets; no run of the model in this text. -/
import Derived.Test.YtkkahijacbboiaaDoorTn
import Derived.Test.YtkkahijacbboiaaDoorRd
namespace Go.Proofs.YtkkahijacbboiaaDoor
open Tp

theorem covers_iff {f g : Bs} : covers f g = true ↔ isFilter f = true ∧ isFilter g = true ∧ ¬ ((spr f).headD [] = pl ∧ dol ((spr g).headD []) = true) ∧ cov (spr f) (spr g) = true := by
  rw [covers_ref, coversR]
  simp only [Bool.and_eq_true, Bool.not_eq_true', Bool.and_eq_false_iff, decide_eq_false_iff_not]
  constructor
  · rintro ⟨⟨⟨h1, h2⟩, h3⟩, h4⟩
    refine ⟨h1, h2, fun h => ?_, h4⟩
    rcases h3 with h3 | h3
    · exact h3 h.1
    · rw [h.2] at h3; cases h3
  · rintro ⟨h1, h2, h3, h4⟩
    refine ⟨⟨⟨h1, h2⟩, ?_⟩, h4⟩
    by_cases hp : (spr f).headD [] = pl
    · right
      cases hd : dol ((spr g).headD []) with
      | false => rfl
      | true => exact absurd ⟨hp, hd⟩ h3
    · exact .inl hp

theorem covers_refl {f : Bs} (h : isFilter f = true) : covers f f = true := by
  rw [covers_iff]
  refine ⟨h, h, fun h => ?_, cov_refl _⟩
  rw [h.1] at h
  exact absurd h.2 (by decide)

theorem cov_head {G H : List Bs} (h : cov G H = true) (nG : G ≠ []) (nH : H ≠ []) (hg : G.headD [] ≠ ha) : G.headD [] = pl ∨ G.headD [] = H.headD [] := by
  cases G with
  | nil => exact absurd rfl nG
  | cons y G =>
    cases H with
    | nil => exact absurd rfl nH
    | cons z H =>
      simp only [List.headD_cons] at hg ⊢
      simp only [cov, if_neg hg] at h
      split at h
      · cases h
      · split at h
        · assumption
        · cases h

theorem covers_trans {f g h : Bs} (h1 : covers f g = true) (h2 : covers g h = true) : covers f h = true := by
  rw [covers_iff] at *
  obtain ⟨a1, a2, a3, a4⟩ := h1
  obtain ⟨b1, b2, b3, b4⟩ := h2
  refine ⟨a1, b2, fun hh => ?_, cov_trans _ _ _ a4 b4⟩
  rcases cov_head b4 spr_ne spr_ne (spr_gd b1).2.1 with e | e
  · exact b3 ⟨e, hh.2⟩
  · exact a3 ⟨hh.1, by rw [e]; exact hh.2⟩

theorem matches_covers {f g n : Bs} (h1 : covers f g = true) (h2 : matches' g n = true) : matches' f n = true := by
  unfold matches' at *
  simp only [Bool.and_eq_true] at *
  exact ⟨h2.1, covers_trans h1 h2.2⟩

theorem srch_symm : ∀ (f g : List Bs), (∀ k, f[k]? = some ha → k + 1 = f.length) → (∀ k, g[k]? = some ha → k + 1 = g.length) → srch f g = srch g f
  | [], [], _, _ => rfl
  | [], y :: g, _, _ => rfl
  | x :: f, [], _, _ => rfl
  | x :: f, y :: g, hf, hg => by
    have ih := srch_symm f g (last_cons hf) (last_cons hg)
    by_cases hx : x = ha
    · by_cases hy : y = ha
      · subst hx hy
        have e1 : f = [] := List.length_eq_zero_iff.1 (by have := hf 0 rfl; rw [List.length_cons] at this; omega)
        have e2 : g = [] := List.length_eq_zero_iff.1 (by have := hg 0 rfl; rw [List.length_cons] at this; omega)
        subst e1 e2; rfl
      · simp [srch, hx, hy]
    · by_cases hy : y = ha
      · simp [srch, hx, hy]
      · by_cases h1 : x = pl
        · by_cases h2 : y = pl
          · simp [srch, h1, h2, ih]
          · simp [srch, h1, h2, hy, ih]
        · by_cases h2 : y = pl
          · simp [srch, h1, h2, hx, ih]
          · by_cases h3 : x = y
            · subst h3; simp [srch, hx, h1, ih]
            · simp [srch, hx, hy, h1, h2, h3, Ne.symm h3]

theorem shared_symm (f g : Bs) : shared f g = shared g f := by
  by_cases hf : isFilter f = true
  · by_cases hg : isFilter g = true
    · rw [shared_shD hf hg, shared_shD hg hf, shD, shD, srch_symm _ _ (spr_gd hf).1.last (spr_gd hg).1.last]
      congr 1
      apply propext
      constructor
      · rintro ⟨h1, h2, h3⟩; exact ⟨Ne.symm h1, h2.symm, h3.symm⟩
      · rintro ⟨h1, h2, h3⟩; exact ⟨Ne.symm h1, h2.symm, h3.symm⟩
    · simp [shared, hg]
  · simp [shared, hf]

theorem common_symm (f g : Bs) : common f g = common g f := by unfold common; rw [shared_symm]

theorem sname_len (L : List Bs) (n : Nat) (h1 : 1 ≤ n) (h : Lib.lens (nmL L) + (nmL L).length ≤ n + 1) : (sname L).length ≤ n := by
  unfold sname
  split
  · exact h1
  · by_cases hn : nmL L = []
    · rw [hn]; exact Nat.zero_le _
    · have := glue_len _ hn
      omega

theorem sname_back (L : List Bs) (hn : nmL L ≠ []) : Lib.lens (nmL L) + (nmL L).length ≤ (sname L).length + 1 := by
  unfold sname
  split
  · rename_i h; rw [h]; decide
  · have := glue_len _ hn
    omega

theorem spr_name {g : Bs} (h : isFilter g = true) : (sname (spr g)).length ≤ 65535 := by
  unfold spr
  split
  · decide
  · split
    · decide
    · refine sname_len _ _ (by decide) ?_
      have h1 := nmL_len (lvs g)
      have h2 := nmL_lens (lvs g)
      have h3 := glue_len (lvs g) (lvs_ne g)
      rw [glue_lvs] at h3
      simp only [isFilter, okText, Bool.and_eq_true, decide_eq_true_eq] at h
      omega

theorem covers_meets {f g : Bs} (h : covers f g = true) : (common f g).isSome = true := by
  have hs : shared f g = some (spr g) := by simpa [covers] using h
  have h2 := (shared_some hs).2.1
  unfold common
  rw [hs]
  dsimp only
  rw [if_pos (spr_name h2)]
  rfl

theorem cov_right : ∀ (G H s : List Bs), srch G H = some s → cov H s = true
  | [], [], s, h => by simp [srch] at h; subst h; rfl
  | [], y :: H, s, h => by
    simp only [srch] at h
    split at h
    · rename_i hy; cases h; simp [cov, hy]
    · cases h
  | x :: G, [], s, h => by
    simp only [srch] at h
    split at h
    · cases h; rfl
    · cases h
  | x :: G, y :: H, s, h => by
    have ih := cov_right G H
    simp only [srch] at h
    split at h
    · cases h; exact cov_refl _
    · rename_i hx
      split at h
      · rename_i hy; cases h; simp [cov, hy]
      · rename_i hy
        split at h
        · obtain ⟨t, ht, rfl⟩ := Option.map_eq_some_iff.1 h
          simp [cov, hy, ih t ht]
        · split at h
          · rename_i hp
            obtain ⟨t, ht, rfl⟩ := Option.map_eq_some_iff.1 h
            simp [cov, hx, hp, ih t ht]
          · split at h
            · rename_i hxy
              obtain ⟨t, ht, rfl⟩ := Option.map_eq_some_iff.1 h
              subst hxy
              simp [cov, hx, ih t ht]
            · cases h

theorem cov_srch : ∀ (F G H s : List Bs), cov F G = true → srch G H = some s → ∃ s', srch F H = some s' ∧ cov s' s = true
  | [], [], H, s, _, h2 => ⟨s, h2, cov_refl s⟩
  | [], _ :: _, _, _, h1, _ => by simp [cov] at h1
  | x :: F, [], H, s, h1, h2 => by
    have hx : x = ha := by simpa [cov] using h1
    subst hx
    refine ⟨H, ?_, cov_right _ _ _ h2⟩
    cases H with
    | nil => rfl
    | cons z H => simp [srch]
  | x :: F, y :: G, H, s, h1, h2 => by
    by_cases hx : x = ha
    · subst hx
      refine ⟨H, ?_, cov_right _ _ _ h2⟩
      cases H with
      | nil => rfl
      | cons z H => simp [srch]
    · simp only [cov, if_neg hx] at h1
      split at h1
      · cases h1
      · rename_i hy
        split at h1
        · rename_i hxy
          cases H with
          | nil => simp [srch, hy] at h2
          | cons z H =>
            simp only [srch, if_neg hy] at h2
            simp only [srch, if_neg hx]
            split at h2
            · rename_i hz
              cases h2
              refine ⟨x :: F, by rw [if_pos hz], ?_⟩
              simp [cov, hx, hy, hxy, h1]
            · rename_i hz
              rw [if_neg hz]
              have ih := fun t ht => cov_srch F G H t h1 ht
              by_cases hyp : y = pl
              · have hxp : x = pl := by rcases hxy with h | h
                                        · exact h
                                        · rw [h, hyp]
                rw [if_pos hyp] at h2
                obtain ⟨t, ht, rfl⟩ := Option.map_eq_some_iff.1 h2
                obtain ⟨t', k1, k2⟩ := ih t ht
                exact ⟨z :: t', by rw [if_pos hxp, k1]; rfl, by simp [cov, hz, k2]⟩
              · rw [if_neg hyp] at h2
                by_cases hzp : z = pl
                · rw [if_pos hzp] at h2
                  obtain ⟨t, ht, rfl⟩ := Option.map_eq_some_iff.1 h2
                  obtain ⟨t', k1, k2⟩ := ih t ht
                  by_cases hxp : x = pl
                  · exact ⟨z :: t', by rw [if_pos hxp, k1]; rfl, by simp [cov, hy, hzp, k2]⟩
                  · have hxy' : x = y := hxy.resolve_left hxp
                    exact ⟨x :: t', by rw [if_neg hxp, if_pos hzp, k1]; rfl, by rw [hxy']; simp [cov, hy, k2]⟩
                · rw [if_neg hzp] at h2
                  split at h2
                  · rename_i hyz
                    obtain ⟨t, ht, rfl⟩ := Option.map_eq_some_iff.1 h2
                    obtain ⟨t', k1, k2⟩ := ih t ht
                    by_cases hxp : x = pl
                    · exact ⟨z :: t', by rw [if_pos hxp, k1]; rfl, by rw [← hyz]; simp [cov, hy, k2]⟩
                    · have hxy' : x = y := hxy.resolve_left hxp
                      exact ⟨x :: t', by rw [if_neg hxp, if_neg hzp, if_pos (by rw [hxy', hyz]), k1]; rfl, by rw [hxy']; simp [cov, hy, k2]⟩
                  · cases h2
        · cases h1

theorem cov_nm : ∀ (s' s : List Bs), (∀ k, s'[k]? = some ha → k + 1 = s'.length) → cov s' s = true → Lib.lens (nmL s') + (nmL s').length ≤ Lib.lens (nmL s) + (nmL s).length
  | [], _, _, _ => Nat.zero_le _
  | x :: r, s, hl, h => by
    by_cases hx : x = ha
    · subst hx
      have e1 : r = [] := List.length_eq_zero_iff.1 (by have := hl 0 rfl; rw [List.length_cons] at this; omega)
      subst e1
      exact Nat.zero_le _
    · cases s with
      | nil => simp [cov, hx] at h
      | cons y s =>
        simp only [cov, if_neg hx] at h
        split at h
        · cases h
        · rename_i hy
          split at h
          · rename_i hxy
            have ih := cov_nm r s (last_cons hl) h
            rw [nmL, if_neg hx, nmL, if_neg hy, lens_cons, lens_cons, List.length_cons, List.length_cons]
            by_cases hxp : x = pl
            · rw [if_pos hxp]; simp only [List.length_nil]; omega
            · have hxy' := hxy.resolve_left hxp
              subst hxy'
              omega
          · cases h

theorem covers_meet {f g h : Bs} (h1 : covers f g = true) (h2 : (common g h).isSome = true) : (common f h).isSome = true := by
  rw [covers_iff] at h1
  obtain ⟨a1, a2, a3, a4⟩ := h1
  unfold common at h2
  cases hs : shared g h with
  | none => rw [hs] at h2; cases h2
  | some s =>
    rw [hs] at h2
    dsimp only at h2
    have hlen : (sname s).length ≤ 65535 := by
      by_cases hl : (sname s).length ≤ 65535
      · exact hl
      · rw [if_neg hl] at h2; cases h2
    obtain ⟨_, b2, b3⟩ := shared_some hs
    obtain ⟨s', k1, k2⟩ := cov_srch _ _ _ _ a4 b3
    have hsh : shared f h = some s' := by
      rw [shared_shD a1 b2, shD, if_neg, k1]
      rintro ⟨c1, c2, c3⟩
      have hG := hs
      rw [shared_shD a2 b2, shD] at hG
      split at hG
      · cases hG
      · rename_i hn
        rcases cov_head a4 spr_ne spr_ne (spr_gd a1).2.1 with e | e
        · have hz : dol ((spr h).headD []) = true := by
            rcases c2 with c2 | c2
            · rw [e] at c2; exact absurd c2 (by decide)
            · exact c2
          have hzz := dol_no hz
          obtain ⟨y, G, hyG⟩ : ∃ y G, spr g = y :: G := by
            cases hh : spr g with
            | nil => exact absurd hh spr_ne
            | cons y G => exact ⟨y, G, rfl⟩
          obtain ⟨z, H, hzH⟩ : ∃ z H, spr h = z :: H := by
            cases hh : spr h with
            | nil => exact absurd hh spr_ne
            | cons y G => exact ⟨y, G, rfl⟩
          have gy := (spr_gd a2).2.1
          rw [hyG] at a3 b3 hn gy
          rw [hzH] at b3 hn hz hzz
          simp only [List.headD_cons] at a3 hn hz hzz gy
          have hyd : dol y = false := by
            cases hd : dol y with
            | false => rfl
            | true => exact absurd ⟨e, hd⟩ a3
          simp only [srch, if_neg gy, if_neg hzz.2.1, if_neg hzz.1] at b3
          split at b3
          · rename_i hyp
            exact hn ⟨by rw [hyp]; exact Ne.symm hzz.1, .inr hz, .inl hyp⟩
          · split at b3
            · rename_i hyz
              rw [hyz, hz] at hyd; cases hyd
            · cases b3
        · exact hn ⟨by rw [← e]; exact c1, by rw [← e]; exact c2, by rw [← e]; exact c3⟩
    unfold common
    rw [hsh]
    dsimp only
    obtain ⟨z, r, hzr, hzh⟩ := srch_head b3 spr_ne spr_ne (spr_gd a2).2.1 (spr_gd b2).2.1
    have hnm : nmL s ≠ [] := by rw [hzr, nmL, if_neg hzh]; simp
    have e1 := cov_nm _ _ (srch_last _ _ _ k1 (spr_gd a1).1.last (spr_gd b2).1.last) k2
    have e2 := sname_back s hnm
    rw [if_pos (sname_len s' 65535 (by decide) (by omega))]
    rfl
end Go.Proofs.YtkkahijacbboiaaDoor
