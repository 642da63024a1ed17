/- The plain theory, further: the name that two filters have in common is a name, and both have it; valid UTF-8 level by level; no run of the model in this text. -/
import Derived.Test.YtkkahijacbboiaaDoorTz
import Derived.Lib.ValidLaws
import Derived.Lib.MapLaws
import Derived.Lib.TrimUEq
namespace Go.Proofs.YtkkahijacbboiaaDoor
open Tp

theorem getD_left (a b : Bs) (i : Nat) (h : i < a.length) : (a ++ 47 :: b).getD i 0 = a.getD i 0 := by
  simp [List.getD, List.getElem?_append_left h]
theorem getD_at (a b : Bs) : (a ++ 47 :: b).getD a.length 0 = 47 := by simp [List.getD]

theorem decode_app (a b : Bs) (h : a ≠ []) : Lib.decodeL (a ++ 47 :: b) = Lib.decodeL a := by
  have hl := List.length_pos_iff.2 h
  rw [Lib.decodeL_N, Lib.decodeL_N, List.length_append, List.length_cons, getD_left a b 0 hl]
  have e47 : ∀ i, i = a.length → ((a ++ 47 :: b).getD i 0).toNat = 47 := fun i hi => by rw [hi, getD_at]; rfl
  unfold Lib.decodeN
  by_cases h1 : a.length = 1
  · have k1 := e47 1 h1.symm
    generalize ((a ++ 47 :: b).getD 1 0).toNat = B1 at k1 ⊢
    subst k1
    simp [h1]
  · rw [getD_left a b 1 (by omega)]
    by_cases h2 : a.length = 2
    · have k2 := e47 2 h2.symm
      generalize ((a ++ 47 :: b).getD 2 0).toNat = B2 at k2 ⊢
      subst k2
      have q1 : 1 < 2 + (b.length + 1) := by omega
      simp [h2, q1]
    · rw [getD_left a b 2 (by omega)]
      by_cases h3 : a.length = 3
      · have k3 := e47 3 h3.symm
        generalize ((a ++ 47 :: b).getD 3 0).toNat = B3 at k3 ⊢
        subst k3
        have q1 : 1 < 3 + (b.length + 1) := by omega
        have q2 : 2 < 3 + (b.length + 1) := by omega
        simp [h3, q1, q2]
      · rw [getD_left a b 3 (by omega)]
        have q1 : 1 < a.length + (b.length + 1) := by omega
        have q2 : 2 < a.length + (b.length + 1) := by omega
        have q3 : 3 < a.length + (b.length + 1) := by omega
        have p1 : 1 < a.length := by omega
        have p2 : 2 < a.length := by omega
        have p3 : 3 < a.length := by omega
        simp only [q1, q2, q3, p1, p2, p3]

theorem valid_app : ∀ (n : Nat) (a b : Bs), a.length ≤ n → Lib.validD (a ++ 47 :: b) = (Lib.validD a && Lib.validD b)
  | 0, a, b, h => by
    have : a = [] := List.length_eq_zero_iff.1 (by omega)
    subst this
    rw [List.nil_append, Lib.validD_cons 47 b (by decide)]
    rfl
  | n + 1, a, b, h => by
    by_cases ha : a = []
    · subst ha
      rw [List.nil_append, Lib.validD_cons 47 b (by decide)]
      rfl
    · have hk := Lib.decodeL_le a ha
      have hw := Lib.decodeL_width a
      rw [Lib.validD_step (a ++ 47 :: b) (by simp), Lib.validD_step a ha, decode_app a b ha]
      split
      · rfl
      · rw [List.drop_append_of_le_length hk]
        exact valid_app n _ b (by rw [List.length_drop]; omega)

theorem valid_glue : ∀ (xs : List Bs), xs ≠ [] → Lib.validD (glue xs) = xs.all fun x => Lib.validD x
  | [], h => absurd rfl h
  | [x], _ => by rw [glue_one]; simp
  | x :: y :: r, _ => by
    rw [glue_two, valid_app _ x _ (Nat.le_refl _), valid_glue (y :: r) (by simp)]
    rfl

theorem valid_lvs {s : Bs} (h : Lib.validD s = true) : ∀ x ∈ lvs s, Lib.validD x = true := by
  intro x hx
  have := valid_glue (lvs s) (lvs_ne s)
  rw [glue_lvs, h] at this
  exact List.all_eq_true.1 this.symm x hx

/-- What may stand in a name's level. -/
structure Okl (x : Bs) : Prop where
  v : Lib.validD x = true
  z : (0 : UInt8) ∉ x
  s : (47 : UInt8) ∉ x
  w : wc x = false

theorem okl_nil : Okl [] := ⟨rfl, by simp, by simp, rfl⟩

theorem fl_mem : ∀ {L : List Bs}, fl L = true → ∀ x ∈ L, x = ha ∨ x = pl ∨ wc x = false
  | [], _, x, hx => by simp at hx
  | y :: r, h, x, hx => by
    by_cases hy : y = ha
    · subst hy
      simp [fl] at h
      subst h
      simp at hx
      exact .inl hx
    · simp only [fl, if_neg hy, Bool.and_eq_true, Bool.or_eq_true, decide_eq_true_eq, Bool.not_eq_true'] at h
      rcases List.mem_cons.1 hx with rfl | hx
      · exact .inr h.1
      · exact fl_mem h.2 x hx

theorem spr_ok {s : Bs} (h : isFilter s = true) : ∀ x ∈ spr s, x = ha ∨ x = pl ∨ Okl x := by
  intro x hx
  unfold spr at hx
  split at hx
  · simp at hx
    rcases hx with rfl | rfl
    · exact .inr (.inl rfl)
    · exact .inl rfl
  · split at hx
    · simp at hx
      rcases hx with rfl | rfl | rfl
      · exact .inr (.inr okl_nil)
      · exact .inr (.inl rfl)
      · exact .inl rfl
    · simp only [isFilter, okText, Bool.and_eq_true, decide_eq_true_eq] at h
      rcases fl_mem h.2 x hx with e | e | e
      · exact .inl e
      · exact .inr (.inl e)
      · exact .inr (.inr ⟨valid_lvs h.1.1.2 x hx, fun h0 => h.1.2 (mem_lvs hx h0), no_slash s x hx, e⟩)

theorem nmL_ok : ∀ {L : List Bs}, (∀ x ∈ L, x = ha ∨ x = pl ∨ Okl x) → ∀ x ∈ nmL L, Okl x
  | [], _, x, hx => by simp [nmL] at hx
  | y :: r, h, x, hx => by
    have ih := nmL_ok (L := r) (fun z hz => h z (List.mem_cons_of_mem _ hz))
    rw [nmL] at hx
    split at hx
    · exact ih x hx
    · rename_i hy
      rcases List.mem_cons.1 hx with rfl | hx
      · split
        · exact okl_nil
        · rename_i hp
          exact ((h y (by simp)).resolve_left hy).resolve_left hp
      · exact ih x hx

theorem mem_glue : ∀ {xs : List Bs} {b : UInt8}, b ∈ glue xs → b = 47 ∨ ∃ x ∈ xs, b ∈ x
  | [], b, h => by simp [glue] at h
  | [x], b, h => by rw [glue_one] at h; exact .inr ⟨x, by simp, h⟩
  | x :: y :: r, b, h => by
    rw [glue_two] at h
    rcases List.mem_append.1 h with h | h
    · exact .inr ⟨x, by simp, h⟩
    · rcases List.mem_cons.1 h with h | h
      · exact .inl h
      · rcases mem_glue h with h | ⟨z, hz, hb⟩
        · exact .inl h
        · exact .inr ⟨z, List.mem_cons_of_mem _ hz, hb⟩

theorem glue_name {xs : List Bs} (hne : xs ≠ []) (h1 : xs ≠ [[]]) (hok : ∀ x ∈ xs, Okl x) (hl : (glue xs).length ≤ 65535) : isName (glue xs) = true := by
  have hg : glue xs ≠ [] := by
    intro e
    have := lvs_glue xs hne (fun x hx => (hok x hx).s)
    rw [e] at this
    exact h1 this.symm
  have hv : Lib.validD (glue xs) = true := by
    rw [valid_glue xs hne]
    exact List.all_eq_true.2 fun x hx => (hok x hx).v
  have hz : (0 : UInt8) ∉ glue xs := by
    intro h
    rcases mem_glue h with h | ⟨x, hx, hb⟩
    · exact absurd h (by decide)
    · exact (hok x hx).z hb
  have hw : wc (glue xs) = false := by
    rw [Tp.wc, List.any_eq_false]
    intro b hb
    rcases mem_glue hb with rfl | ⟨x, hx, hb⟩
    · decide
    · have := (hok x hx).w
      rw [Tp.wc, List.any_eq_false] at this
      exact this b hb
  simp only [isName, okText, Bool.and_eq_true, decide_eq_true_eq, Bool.not_eq_true']
  exact ⟨⟨⟨⟨hg, hl⟩, hv⟩, hz⟩, hw⟩

theorem cov_own : ∀ (s : List Bs), (∀ k, s[k]? = some ha → k + 1 = s.length) → cov s (nmL s) = true ∧ ∀ x ∈ nmL s, x ≠ ha
  | [], _ => ⟨rfl, by simp [nmL]⟩
  | x :: r, hl => by
    by_cases hx : x = ha
    · subst hx
      have e1 : r = [] := List.length_eq_zero_iff.1 (by have := hl 0 rfl; rw [List.length_cons] at this; omega)
      subst e1
      exact ⟨rfl, by simp [nmL]⟩
    · obtain ⟨i1, i2⟩ := cov_own r (last_cons hl)
      rw [nmL, if_neg hx]
      by_cases hp : x = pl
      · rw [if_pos hp]
        refine ⟨by simp [cov, hp, i1], fun y hy => ?_⟩
        rcases List.mem_cons.1 hy with rfl | hy
        · decide
        · exact i2 y hy
      · rw [if_neg hp]
        refine ⟨by simp [cov, hx, i1], fun y hy => ?_⟩
        rcases List.mem_cons.1 hy with rfl | hy
        · exact hx
        · exact i2 y hy

/-- No filter has just the levels of the empty text, or these and the hash. -/
theorem spr_not {f : Bs} (h : isFilter f = true) : spr f ≠ [[]] ∧ spr f ≠ [[], ha] := by
  unfold spr
  split
  · exact ⟨by decide, by decide⟩
  · split
    · exact ⟨by decide, by decide⟩
    · rename_i h1 h2
      simp only [isFilter, okText, Bool.and_eq_true, decide_eq_true_eq] at h
      have hg := glue_lvs f
      constructor
      · intro e
        rw [e] at hg
        exact h.1.1.1.1 hg.symm
      · intro e
        rw [e] at hg
        exact h2 hg.symm

theorem cov_small {F r : List Bs} (hF : Gd F) (h0 : F.headD [] ≠ ha) (h1 : F ≠ [[]]) (h2 : F ≠ [[], ha]) (hr : r = [] ∨ r = [ha]) (h : cov F ([] :: r) = true) : F = [pl] ∨ F = [pl, ha] := by
  cases F with
  | nil => exact absurd rfl hF.ne
  | cons x F =>
    simp only [List.headD_cons] at h0
    simp only [cov, if_neg h0] at h
    rw [if_neg (by decide)] at h
    split at h
    · rename_i hx
      have hF' : F = [] ∨ F = [ha] := by
        cases F with
        | nil => exact .inl rfl
        | cons z F =>
          have hz : z = ha := by
            rcases hr with rfl | rfl
            · simpa [cov] using h
            · by_cases hz : z = ha
              · exact hz
              · simp [cov, hz] at h
          subst hz
          have := hF.last 1 rfl
          rw [List.length_cons, List.length_cons] at this
          have : F = [] := List.length_eq_zero_iff.1 (by omega)
          subst this
          exact .inr rfl
      rcases hx with rfl | rfl
      · rcases hF' with rfl | rfl
        · exact .inl rfl
        · exact .inr rfl
      · rcases hF' with rfl | rfl
        · exact absurd rfl h1
        · exact absurd rfl h2
    · cases h

theorem nmL_one {s : List Bs} (hl : ∀ k, s[k]? = some ha → k + 1 = s.length) (h : nmL s = [[]]) (h0 : s.headD [] ≠ ha) : ∃ z r, s = z :: r ∧ (z = pl ∨ z = []) ∧ (r = [] ∨ r = [ha]) := by
  cases s with
  | nil => simp [nmL] at h
  | cons z r =>
    simp only [List.headD_cons] at h0
    rw [nmL, if_neg h0] at h
    refine ⟨z, r, rfl, ?_, ?_⟩
    · by_cases hz : z = pl
      · exact .inl hz
      · rw [if_neg hz] at h
        exact .inr (List.cons.inj h).1
    · have hr := (List.cons.inj h).2
      cases r with
      | nil => exact .inl rfl
      | cons y r =>
        right
        by_cases hy : y = ha
        · subst hy
          have := hl 1 rfl
          rw [List.length_cons, List.length_cons] at this
          have : r = [] := List.length_eq_zero_iff.1 (by omega)
          subst this
          rfl
        · rw [nmL, if_neg hy] at hr
          cases hr

theorem cov_left {F G s : List Bs} (hF : Gd F) (hG : Gd G) (h : srch F G = some s) : cov F s = true := by
  rw [srch_symm F G hF.last hG.last] at h
  exact cov_right _ _ _ h

/-- The name that two filters have in common. -/
theorem common_ok {f g n : Bs} (h : common f g = some n) : matches' f n = true ∧ matches' g n = true := by
  unfold common at h
  cases hs : shared f g with
  | none => rw [hs] at h; cases h
  | some s =>
    rw [hs] at h
    dsimp only at h
    split at h
    · rename_i hlen
      cases h
      obtain ⟨h1, h2, h3⟩ := shared_some hs
      have g1 := spr_gd h1
      have g2 := spr_gd h2
      have hlast := srch_last _ _ _ h3 g1.1.last g2.1.last
      have cF := cov_left g1.1 g2.1 h3
      have cG := cov_right _ _ _ h3
      obtain ⟨z, r, hzr, hzh⟩ := srch_head h3 spr_ne spr_ne g1.2.1 g2.2.1
      have hok : ∀ x ∈ nmL s, Okl x := nmL_ok fun x hx => (srch_mem _ _ _ h3 x hx).elim (spr_ok h1 x) (spr_ok h2 x)
      by_cases hone : nmL s = [[]]
      · have hn : sname s = [97] := by rw [sname, if_pos hone]
        rw [hn]
        obtain ⟨z', r', e, hz, hr⟩ := nmL_one hlast hone (by rw [hzr]; exact hzh)
        have hzp : z' = pl := by
          rcases hz with hz | hz
          · exact hz
          · exfalso
            subst hz
            rw [e] at cF cG h3
            have a1 := cov_small g1.1 g1.2.1 (spr_not h1).1 (spr_not h1).2 hr cF
            have a2 := cov_small g2.1 g2.2.1 (spr_not h2).1 (spr_not h2).2 hr cG
            rcases a1 with a1 | a1 <;> rcases a2 with a2 | a2 <;> rw [a1, a2] at h3 <;> exact absurd h3 (by simp [srch])
        subst hzp
        have hc : cov s [[97]] = true := by
          rw [e]
          rcases hr with rfl | rfl <;> decide
        have hnm : isName [97] = true := by decide +kernel
        have hsp : spr [97] = [[97]] := rfl
        have key : ∀ {F : Bs}, isFilter F = true → cov (spr F) s = true → matches' F [97] = true := by
          intro F hF hcF
          rw [matches', hnm, Bool.true_and, covers_iff]
          exact ⟨hF, name_filter hnm, fun h => absurd h.2 (by decide), by rw [hsp]; exact cov_trans _ _ _ hcF hc⟩
        exact ⟨key h1 cF, key h2 cG⟩
      · have hne : nmL s ≠ [] := by rw [hzr, nmL, if_neg hzh]; simp
        have hn : sname s = glue (nmL s) := by rw [sname, if_neg hone]
        rw [hn] at hlen ⊢
        have hnm := glue_name hne hone hok hlen
        have hw : wc (glue (nmL s)) = false := (by simp only [isName, Bool.and_eq_true, Bool.not_eq_true'] at hnm; exact hnm.2)
        have hsp : spr (glue (nmL s)) = nmL s := by rw [name_spr hw, lvs_glue _ hne (fun x hx => (hok x hx).s)]
        have hc := (cov_own s hlast).1
        have hd : ∀ {x : Bs}, dol ((nmL s).headD []) = true → dol z = true := by
          intro x hd
          rw [hzr, nmL, if_neg hzh] at hd
          simp only [List.headD_cons] at hd
          split at hd
          · exact absurd hd (by decide)
          · exact hd
        have hid := hs
        rw [shared_shD h1 h2, shD] at hid
        split at hid
        · cases hid
        · rename_i hnh
          obtain ⟨x, F, hxF⟩ : ∃ x F, spr f = x :: F := by
            cases hh : spr f with
            | nil => exact absurd hh spr_ne
            | cons y G => exact ⟨y, G, rfl⟩
          obtain ⟨y, G, hyG⟩ : ∃ y G, spr g = y :: G := by
            cases hh : spr g with
            | nil => exact absurd hh spr_ne
            | cons y G => exact ⟨y, G, rfl⟩
          have gx := g1.2.1
          have gy := g2.2.1
          have h3' := h3
          rw [hxF, hyG, hzr] at h3'
          rw [hxF, hyG] at hnh
          rw [hxF] at gx
          rw [hyG] at gy
          simp only [List.headD_cons] at hnh gx gy
          simp only [srch, if_neg gx, if_neg gy] at h3'
          have hz : (x = pl → z = y) ∧ (y = pl → z = x) := by
            constructor
            · intro hx
              rw [if_pos hx] at h3'
              obtain ⟨t, _, ht⟩ := Option.map_eq_some_iff.1 h3'
              exact ((List.cons.inj ht).1).symm
            · intro hy
              by_cases hx : x = pl
              · rw [if_pos hx] at h3'
                obtain ⟨t, _, ht⟩ := Option.map_eq_some_iff.1 h3'
                rw [← (List.cons.inj ht).1, hy, hx]
              · rw [if_neg hx, if_pos hy] at h3'
                obtain ⟨t, _, ht⟩ := Option.map_eq_some_iff.1 h3'
                exact ((List.cons.inj ht).1).symm
          constructor
          · rw [matches', hnm, Bool.true_and, covers_iff]
            refine ⟨h1, name_filter hnm, fun h => ?_, by rw [hsp]; exact cov_trans _ _ _ cF hc⟩
            rw [hsp, hxF] at h
            simp only [List.headD_cons] at h
            have hdz := hd (x := []) h.2
            rw [hz.1 h.1] at hdz
            exact hnh ⟨by rw [h.1]; exact Ne.symm (dol_no hdz).1, .inr hdz, .inl h.1⟩
          · rw [matches', hnm, Bool.true_and, covers_iff]
            refine ⟨h2, name_filter hnm, fun h => ?_, by rw [hsp]; exact cov_trans _ _ _ cG hc⟩
            rw [hsp, hyG] at h
            simp only [List.headD_cons] at h
            have hdz := hd (x := []) h.2
            rw [hz.2 h.1] at hdz
            exact hnh ⟨by rw [h.1]; exact (dol_no hdz).1, .inl hdz, .inr h.1⟩
    · cases h
end Go.Proofs.YtkkahijacbboiaaDoor
