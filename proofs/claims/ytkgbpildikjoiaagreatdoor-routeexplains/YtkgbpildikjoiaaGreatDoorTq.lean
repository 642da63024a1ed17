/- What the walk of search leaves is what two rows of levels share: the link between the walk's own recursion and the plain one. -/
import Derived.Test.YtkgbpildikjoiaaGreatDoorTs
namespace Go.Proofs.YtkgbpildikjoiaaGreatDoor
open Tp

/-- The hash stands at the end alone, and no level is a slash. -/
structure Gd (f : List Bs) : Prop where
  ne : f ≠ []
  last : ∀ k, f[k]? = some ha → k + 1 = f.length
  nn : ∀ x ∈ f, x ≠ no

theorem fl_last : ∀ (f : List Bs), fl f = true → ∀ k, f[k]? = some ha → k + 1 = f.length
  | [], _, k, h => by simp at h
  | x :: r, hf, 0, h => by
    simp at h; subst h
    simp [fl] at hf
    subst hf; rfl
  | x :: r, hf, k + 1, h => by
    have h' : r[k]? = some ha := by simpa using h
    by_cases hx : x = ha
    · subst hx; simp [fl] at hf; subst hf; simp at h'
    · simp only [fl, if_neg hx, Bool.and_eq_true] at hf
      have := fl_last r hf.2 k h'
      simp [this]

def lvb (f : List Bs) (i : Nat) : Bs := (f[i]?).getD (if f.getLast? = some ha then ha else no)
def dS (f : List Bs) (k : Nat) : List Bs := if k < f.length then f.drop k else if f.getLast? = some ha then [ha] else []

theorem view {f : List Bs} (h : Gd f) (k : Nat) :
    (∃ x, x ≠ ha ∧ x ≠ no ∧ lvb f k = x ∧ dS f k = x :: f.drop (k + 1) ∧ dS f (k + 1) = f.drop (k + 1) ∧ k < f.length) ∨
    (lvb f k = ha ∧ dS f k = [ha] ∧ dS f (k + 1) = [ha] ∧ f.length ≤ k + 1) ∨
    (lvb f k = no ∧ dS f k = [] ∧ dS f (k + 1) = [] ∧ f.length ≤ k) := by
  by_cases hk : k < f.length
  · have e : f.drop k = f[k] :: f.drop (k + 1) := List.drop_eq_getElem_cons hk
    by_cases hx : f[k] = ha
    · have hl : k + 1 = f.length := h.last k (by rw [List.getElem?_eq_getElem hk, hx])
      have hd : f.drop (k + 1) = [] := List.drop_eq_nil_of_le (by omega)
      have hla : f.getLast? = some ha := by
        rw [List.getLast?_eq_getElem?, show f.length - 1 = k by omega, List.getElem?_eq_getElem hk, hx]
      refine .inr (.inl ⟨by simp [lvb, hk, hx], by simp [dS, hk, e, hx, hd], ?_, by omega⟩)
      simp [dS, show ¬ (k + 1 < f.length) by omega, hla]
    · refine .inl ⟨f[k], hx, h.nn _ (List.getElem_mem hk), by simp [lvb, hk], by simp only [dS, if_pos hk, e], ?_, hk⟩
      by_cases hk1 : k + 1 < f.length
      · simp [dS, hk1]
      · have hla : f.getLast? ≠ some ha := by
          rw [List.getLast?_eq_getElem?, show f.length - 1 = k by omega, List.getElem?_eq_getElem hk]
          simpa using hx
        rw [List.drop_eq_nil_of_le (by omega)]
        simp [dS, hk1, hla]
  · have e : f[k]? = none := by simp; omega
    by_cases hla : f.getLast? = some ha
    · exact .inr (.inl ⟨by simp [lvb, e, hla], by simp [dS, hk, hla], by simp [dS, show ¬ (k + 1 < f.length) by omega, hla], by omega⟩)
    · exact .inr (.inr ⟨by simp [lvb, e, hla], by simp [dS, hk, hla], by simp [dS, show ¬ (k + 1 < f.length) by omega, hla], by omega⟩)

theorem srch_right (t : List Bs) (h : ∀ k, t[k]? = some ha → k + 1 = t.length) : srch t [ha] = some t := by
  cases t with
  | nil => rfl
  | cons z r =>
    by_cases hz : z = ha
    · subst hz
      have := h 0 rfl
      rw [List.length_cons] at this
      have hr : r = [] := List.length_eq_zero_iff.1 (by omega)
      subst hr; rfl
    · simp [srch, hz]

theorem srch_left (t : List Bs) : srch [ha] t = some t := by
  cases t with
  | nil => rfl
  | cons z r => simp [srch]

def rest1 (f g : List Bs) (k : Nat) : Option (List Bs) := if k + 1 < max f.length g.length then srch (dS f (k + 1)) (dS g (k + 1)) else some []

theorem within_pl {x : Bs} (h1 : x ≠ ha) (h2 : x ≠ no) : within x pl = true := by simp [within, h1, h2]
theorem within_ha (x : Bs) : within x ha = true := by simp [within]
theorem within_no (x : Bs) (h : x ≠ no) : within x no = false := by simp [within, h]
theorem within_to {x y : Bs} (h1 : y ≠ ha) (h2 : y ≠ pl) : within x y = (x == y) := by simp [within, h1, h2]

theorem stepS {f g : List Bs} (hf : Gd f) (hg : Gd g) (k : Nat) (hk : k < max f.length g.length) :
    srch (dS f k) (dS g k) = match narr (lvb f k) (lvb g k) with
      | none => none
      | some l => if l = no then rest1 f g k else (rest1 f g k).map (l :: ·) := by
  rcases view hf k with ⟨x, x1, x2, x3, x4, x5, x6⟩ | ⟨x3, x4, x5, x6⟩ | ⟨x3, x4, x5, x6⟩ <;>
  rcases view hg k with ⟨y, y1, y2, y3, y4, y5, y6⟩ | ⟨y3, y4, y5, y6⟩ | ⟨y3, y4, y5, y6⟩
  · have hr : rest1 f g k = srch (f.drop (k + 1)) (g.drop (k + 1)) := by
      unfold rest1
      rw [x5, y5]
      split
      · rfl
      · rw [List.drop_eq_nil_of_le (by omega), List.drop_eq_nil_of_le (by omega)]; rfl
    rw [x3, y3, x4, y4, hr]
    by_cases hx : x = pl
    · subst hx
      simp [narr, within_pl y1 y2, srch, y1, y2]
    · by_cases hy : y = pl
      · subst hy
        have e1 : within pl x = false := by rw [within_to x1 hx]; simpa using Ne.symm hx
        simp [narr, e1, within_pl x1 x2, srch, x1, x2, hx]
      · by_cases hxy : x = y
        · subst hxy
          simp [narr, within_to x1 hx, srch, x1, x2, hx]
        · have e1 : within y x = false := by rw [within_to x1 hx]; simpa using Ne.symm hxy
          have e2 : within x y = false := by rw [within_to y1 hy]; simpa using hxy
          simp [narr, e1, e2, srch, x1, y1, hx, hy, hxy]
  · have hr : rest1 f g k = some (f.drop (k + 1)) := by
      unfold rest1
      rw [x5, y5]
      split
      · exact srch_right _ fun j hj => by
          rw [List.getElem?_drop] at hj
          have := hf.last _ hj
          rw [List.length_drop]; omega
      · rw [List.drop_eq_nil_of_le (by omega)]
    rw [x3, y3, x4, y4, hr]
    have e1 : within ha x = false := by
      by_cases hx : x = pl
      · subst hx; decide
      · rw [within_to x1 hx]; simpa using Ne.symm x1
    simp [narr, e1, within_ha, srch, x1, x2]
  · rw [x3, y3, x4, y4]
    have e1 : within no x = false := by
      by_cases hx : x = pl
      · subst hx; decide
      · rw [within_to x1 hx]; simpa using Ne.symm x2
    simp [narr, e1, within_no x x2, srch, x1]
  · have hr : rest1 f g k = some (g.drop (k + 1)) := by
      unfold rest1
      rw [x5, y5]
      split
      · exact srch_left _
      · rw [List.drop_eq_nil_of_le (by omega)]
    rw [x3, y3, x4, y4, hr]
    simp [narr, within_ha, srch, y2]
  · have hr : rest1 f g k = some [] := by unfold rest1; rw [if_neg (by omega)]
    rw [x3, y3, x4, y4, hr]
    rfl
  · have hr : rest1 f g k = some [] := by unfold rest1; rw [if_neg (by omega)]
    rw [x3, y3, x4, y4, hr]
    rfl
  · rw [x3, y3, x4, y4]
    have e1 : within no y = false := by
      by_cases hy : y = pl
      · subst hy; decide
      · rw [within_to y1 hy]; simpa using Ne.symm y2
    simp [narr, e1, within_no y y2, srch, y1]
  · have hr : rest1 f g k = some [] := by unfold rest1; rw [if_neg (by omega)]
    rw [x3, y3, x4, y4, hr]
    rfl
  · omega

theorem tl_lvA (F : List ByteArray) (i : Nat) : tl (lvA F i) = lvb (F.map tl) i := by
  unfold lvA lvb
  rw [List.getElem?_map, List.getLast?_map]
  cases F[i]? with
  | some x => rfl
  | none =>
    simp only [Option.getD_none, Option.map_none]
    split <;> exact tl_bs _

/-- From the second place on. -/
theorem goS_srch (F G : List ByteArray) (hF : Gd (F.map tl)) (hG : Gd (G.map tl)) : ∀ n k, n = max F.length G.length - k → 0 < n → 0 < k →
    goS F G n k = (srch (dS (F.map tl) k) (dS (G.map tl) k)).map (List.map bs)
  | 0, _, _, h, _ => absurd h (Nat.lt_irrefl _)
  | n + 1, k, hn, _, hk => by
    have hlt : k < max (F.map tl).length (G.map tl).length := by simp only [List.length_map]; omega
    rw [goS, stepS hF hG k hlt, tl_lvA, tl_lvA]
    have hrest : goS F G n (k + 1) = (rest1 (F.map tl) (G.map tl) k).map (List.map bs) := by
      unfold rest1
      simp only [List.length_map]
      split
      · exact goS_srch F G hF hG n (k + 1) (by omega) (by omega) (by omega)
      · obtain rfl : n = 0 := by omega
        rfl
    cases narr (lvb (F.map tl) k) (lvb (G.map tl) k) with
    | none => rfl
    | some l =>
      simp only []
      rw [if_neg (fun h => by omega), hrest]
      split
      · rfl
      · cases rest1 (F.map tl) (G.map tl) k <;> rfl

/-- What two rows share, but for first levels that begin with a dollar and meet the plus. -/
def shD (f g : List Bs) : Option (List Bs) :=
  if f.headD [] ≠ g.headD [] ∧ (dol (f.headD []) = true ∨ dol (g.headD []) = true) ∧ (f.headD [] = pl ∨ g.headD [] = pl) then none else srch f g

theorem goS_shD (F G : List ByteArray) (hF : Gd (F.map tl)) (hG : Gd (G.map tl)) (hf : (F.map tl).headD [] ≠ ha) (hg : (G.map tl).headD [] ≠ ha) :
    goS F G (max F.length G.length) 0 = (shD (F.map tl) (G.map tl)).map (List.map bs) := by
  have pF : 0 < F.length := by have := List.length_pos_iff.2 hF.ne; simpa using this
  have pG : 0 < G.length := by have := List.length_pos_iff.2 hG.ne; simpa using this
  obtain ⟨n, hn⟩ : ∃ n, max F.length G.length = n + 1 := ⟨max F.length G.length - 1, by omega⟩
  have hlt : 0 < max (F.map tl).length (G.map tl).length := by simp only [List.length_map]; omega
  have hrest : goS F G n 1 = (rest1 (F.map tl) (G.map tl) 0).map (List.map bs) := by
    unfold rest1
    simp only [List.length_map]
    split
    · exact goS_srch F G hF hG n 1 (by omega) (by omega) (by omega)
    · obtain rfl : n = 0 := by omega
      rfl
  have d0F : dS (F.map tl) 0 = F.map tl := by simp [dS, pF]
  have d0G : dS (G.map tl) 0 = G.map tl := by simp [dS, pG]
  have st := stepS hF hG 0 hlt
  rw [d0F, d0G] at st
  have hxe : lvA F 0 = lvA G 0 ↔ lvb (F.map tl) 0 = lvb (G.map tl) 0 := by rw [← tl_lvA, ← tl_lvA]; exact tl_inj.symm
  have ex : lvb (F.map tl) 0 = (F.map tl).headD [] := by
    cases F with
    | nil => simp at pF
    | cons a r => rfl
  have ey : lvb (G.map tl) 0 = (G.map tl).headD [] := by
    cases G with
    | nil => simp at pG
    | cons a r => rfl
  have nx : (F.map tl).headD [] ≠ no := by
    cases F with
    | nil => simp at pF
    | cons a r => exact hF.nn _ (by simp)
  have ny : (G.map tl).headD [] ≠ no := by
    cases G with
    | nil => simp at pG
    | cons a r => exact hG.nn _ (by simp)
  rw [hn, goS, tl_lvA, tl_lvA]
  unfold shD
  rw [ex, ey] at st hxe
  rw [ex, ey, st]
  clear ex ey st
  generalize (F.map tl).headD [] = x at hf nx hxe ⊢
  generalize (G.map tl).headD [] = y at hg ny hxe ⊢
  have dp : dol pl = false := rfl
  by_cases hxy : x = y
  · have hc : ¬ (x ≠ y ∧ (dol x = true ∨ dol y = true) ∧ (x = pl ∨ y = pl)) := fun h => h.1 hxy
    rw [if_neg hc]
    cases narr x y with
    | none => rfl
    | some l =>
      dsimp only
      rw [if_neg (fun h => h.2.1 (hxe.2 hxy)), show 0 + 1 = 1 from rfl, hrest]
      split
      · rfl
      · cases rest1 (F.map tl) (G.map tl) 0 <;> rfl
  · by_cases hx : x = pl
    · subst hx
      have en : narr pl y = some y := by simp [narr, within_pl hg ny]
      rw [en]
      dsimp only
      by_cases hd : dol y = true
      · rw [if_pos ⟨rfl, fun h => hxy (hxe.1 h), hd⟩, if_pos ⟨hxy, .inr hd, .inl rfl⟩]; rfl
      · have hh : ¬ (pl ≠ y ∧ (dol pl = true ∨ dol y = true) ∧ (pl = pl ∨ y = pl)) := fun h => by
          rcases h.2.1 with h | h
          · rw [dp] at h; cases h
          · exact hd h
        rw [if_neg (fun h => hd h.2.2), if_neg hh, show 0 + 1 = 1 from rfl, hrest]
        split
        · rfl
        · cases rest1 (F.map tl) (G.map tl) 0 <;> rfl
    · by_cases hy : y = pl
      · subst hy
        have e1 : within pl x = false := by rw [within_to hf hx]; simpa using Ne.symm hx
        have en : narr x pl = some x := by simp [narr, e1, within_pl hf nx]
        rw [en]
        dsimp only
        by_cases hd : dol x = true
        · rw [if_pos ⟨rfl, fun h => hxy (hxe.1 h), hd⟩, if_pos ⟨hxy, .inl hd, .inr rfl⟩]; rfl
        · have hh : ¬ (x ≠ pl ∧ (dol x = true ∨ dol pl = true) ∧ (x = pl ∨ pl = pl)) := fun h => by
            rcases h.2.1 with h | h
            · exact hd h
            · rw [dp] at h; cases h
          rw [if_neg (fun h => hd h.2.2), if_neg hh, show 0 + 1 = 1 from rfl, hrest]
          split
          · rfl
          · cases rest1 (F.map tl) (G.map tl) 0 <;> rfl
      · have e1 : within y x = false := by rw [within_to hf hx]; simpa using Ne.symm hxy
        have e2 : within x y = false := by rw [within_to hg hy]; simpa using hxy
        have en : narr x y = none := by simp [narr, e1, e2]
        rw [en]
        dsimp only
        split <;> rfl
end Go.Proofs.YtkgbpildikjoiaaGreatDoor
