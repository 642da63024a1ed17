/- The plain theory of topics: levels of a text, filters, covering, sharing: lists of bytes alone; no run of the model in this text. -/
import Derived.Lib.Join
import Derived.Lib.ValidU
namespace Go.Proofs.YtkgbpildikjoiaaGreatDoor
namespace Tp
abbrev Bs := List UInt8
abbrev pl : Bs := [43]
abbrev ha : Bs := [35]
abbrev no : Bs := [47]

/-- What stands between the slashes. -/
def lvs : Bs → List Bs
  | [] => [[]]
  | b :: r => if b = 47 then [] :: lvs r else (b :: (lvs r).headD []) :: (lvs r).tail

theorem lvs_ne (l : Bs) : lvs l ≠ [] := by
  cases l with
  | nil => simp [lvs]
  | cons b r => unfold lvs; split <;> simp

theorem lvs_flat : ∀ (a : Bs), (47 : UInt8) ∉ a → lvs a = [a]
  | [], _ => rfl
  | b :: r, h => by
    have hb : b ≠ 47 := fun e => h (by simp [e])
    have hr : (47 : UInt8) ∉ r := fun e => h (List.mem_cons_of_mem _ e)
    rw [lvs, if_neg hb, lvs_flat r hr]; rfl

theorem lvs_cut : ∀ (a b : Bs), (47 : UInt8) ∉ a → lvs (a ++ 47 :: b) = a :: lvs b
  | [], b, _ => by simp [lvs]
  | c :: r, b, h => by
    have hc : c ≠ 47 := fun e => h (by simp [e])
    have hr : (47 : UInt8) ∉ r := fun e => h (List.mem_cons_of_mem _ e)
    rw [List.cons_append, lvs, if_neg hc, lvs_cut r b hr]; rfl

/-- Put together with slashes. -/
def glue : List Bs → Bs
  | [] => []
  | x :: r => x ++ Lib.joinTail [47] r

theorem glue_one (x : Bs) : glue [x] = x := by simp [glue, Lib.joinTail]
theorem glue_two (x y : Bs) (r : List Bs) : glue (x :: y :: r) = x ++ 47 :: glue (y :: r) := by
  simp [glue, Lib.joinTail]

theorem no_slash : ∀ (l : Bs), ∀ x ∈ lvs l, (47 : UInt8) ∉ x
  | [], x, h => by simp [lvs] at h; subst h; simp
  | b :: r, x, h => by
    by_cases hb : b = 47
    · rw [lvs, if_pos hb] at h
      rcases List.mem_cons.1 h with rfl | h'
      · simp
      · exact no_slash r x h'
    · rw [lvs, if_neg hb] at h
      obtain ⟨y, ys, hy⟩ : ∃ y ys, lvs r = y :: ys := by
        cases e : lvs r with
        | nil => exact absurd e (lvs_ne r)
        | cons y ys => exact ⟨y, ys, rfl⟩
      have ih := no_slash r
      rw [hy] at h ih
      rcases List.mem_cons.1 h with rfl | h'
      · intro hm
        rcases List.mem_cons.1 hm with e | hm
        · exact hb e.symm
        · exact ih y (by simp) hm
      · exact ih x (List.mem_cons_of_mem _ h')

theorem glue_lvs : ∀ (l : Bs), glue (lvs l) = l
  | [] => rfl
  | b :: r => by
    have ih := glue_lvs r
    obtain ⟨y, ys, hy⟩ : ∃ y ys, lvs r = y :: ys := by
      cases e : lvs r with
      | nil => exact absurd e (lvs_ne r)
      | cons y ys => exact ⟨y, ys, rfl⟩
    by_cases hb : b = 47
    · rw [lvs, if_pos hb, hy, glue_two, ← hy, ih, hb]; rfl
    · rw [lvs, if_neg hb, hy]
      rw [hy] at ih
      simp only [List.headD_cons, List.tail_cons, glue, List.cons_append] at ih ⊢
      rw [ih]

theorem glue_len : ∀ (xs : List Bs), xs ≠ [] → (glue xs).length + 1 = Lib.lens xs + xs.length
  | [], h => absurd rfl h
  | [x], _ => by rw [glue_one]; simp [Lib.lens]
  | x :: y :: r, _ => by
    have ih := glue_len (y :: r) (by simp)
    rw [glue_two]
    simp only [Lib.lens, List.map_cons, List.sum_cons, List.length_append, List.length_cons] at ih ⊢
    omega

theorem lvs_len (l : Bs) : (lvs l).length = l.count 47 + 1 := by
  induction l with
  | nil => rfl
  | cons b r ih =>
    by_cases hb : b = 47
    · rw [lvs, if_pos hb, hb, List.length_cons, ih, List.count_cons_self]
    · rw [lvs, if_neg hb, List.count_cons_of_ne hb]
      have := lvs_ne r
      cases e : lvs r with
      | nil => exact absurd e this
      | cons y ys => rw [e] at ih; simpa using ih

theorem mem_lvs {l : Bs} {x : Bs} (hx : x ∈ lvs l) {b : UInt8} (hb : b ∈ x) : b ∈ l := by
  have : ∀ xs : List Bs, x ∈ xs → b ∈ glue xs := by
    intro xs
    induction xs with
    | nil => intro h; simp at h
    | cons y r ih =>
      intro h
      cases r with
      | nil => simp at h; subst h; rw [glue_one]; exact hb
      | cons z r =>
        rw [glue_two]
        rcases List.mem_cons.1 h with rfl | h'
        · simp [hb]
        · simp [ih h']
  rw [← glue_lvs l]
  exact this _ hx

/-- Does the plus or the hash stand in a text? -/
def wc (l : Bs) : Bool := l.any fun b => b == 43 || b == 35

/-- Levels as a filter has them. -/
def fl : List Bs → Bool
  | [] => true
  | x :: r => if x = ha then r.isEmpty else (decide (x = pl) || !wc x) && fl r

def okText (s : Bs) : Bool := decide (s ≠ []) && decide (s.length ≤ 65535) && Lib.validD s && decide ((0 : UInt8) ∉ s)
def isName (s : Bs) : Bool := okText s && !wc s
def isFilter (s : Bs) : Bool := okText s && fl (lvs s)

/-- As the loop of the program goes on: was the level ahead the hash? -/
def flE : Bool → List Bs → Bool
  | _, [] => true
  | e, x :: r => if e || !(decide (x = pl) || decide (x = ha) || !wc x) then false else flE (decide (x = ha)) r

theorem flE_true (l : List Bs) : flE true l = l.isEmpty := by cases l <;> simp [flE]
theorem flE_fl : ∀ l : List Bs, flE false l = fl l
  | [] => rfl
  | x :: r => by
    by_cases h : x = ha
    · subst h; simp [flE, fl, flE_true]
    · have ih := flE_fl r
      simp only [flE, fl, h, decide_false, Bool.or_false, Bool.false_or, if_false, ih]
      by_cases h2 : x = pl
      · simp [h2]
      · cases hw : wc x <;> simp [h2]

/-- As the reference asks it, level by level. -/
def flR : List Bs → Bool
  | [] => true
  | x :: r => if wc x && !decide (x = pl) && (!decide (x = ha) || !r.isEmpty) then false else flR r
theorem wc_ha : wc ha = true := rfl
theorem flR_fl : ∀ l : List Bs, flR l = fl l
  | [] => rfl
  | x :: r => by
    have ih := flR_fl r
    by_cases h : x = ha
    · subst h
      cases r with
      | nil => rfl
      | cons y r => simp [flR, fl, wc_ha]
    · simp only [flR, fl, h, ih, decide_false, Bool.not_false, Bool.true_or, Bool.and_true, if_false]
      by_cases h2 : x = pl
      · simp [h2]
      · cases hw : wc x <;> simp [h2]

theorem fl_name : ∀ l : List Bs, (∀ x ∈ l, wc x = false) → fl l = true
  | [], _ => rfl
  | x :: r, h => by
    have hx := h x (by simp)
    have hne : x ≠ ha := fun e => by rw [e] at hx; exact absurd hx (by decide)
    simp [fl, hne, hx, fl_name r (fun y hy => h y (List.mem_cons_of_mem _ hy))]

/-- What two rows of levels share. -/
def srch : List Bs → List Bs → Option (List Bs)
  | [], [] => some []
  | [], y :: _ => if y = ha then some [] else none
  | x :: _, [] => if x = ha then some [] else none
  | x :: f, y :: g => if x = ha then some (y :: g) else if y = ha then some (x :: f) else
      if x = pl then (srch f g).map (y :: ·) else if y = pl then (srch f g).map (x :: ·) else if x = y then (srch f g).map (x :: ·) else none

def cov : List Bs → List Bs → Bool
  | [], [] => true
  | [], _ :: _ => false
  | x :: _, [] => decide (x = ha)
  | x :: f, y :: g => if x = ha then true else if y = ha then false else if x = pl ∨ x = y then cov f g else false

theorem srch_cov : ∀ f g : List Bs, (srch f g = some g) ↔ cov f g = true
  | [], [] => by simp [srch, cov]
  | [], y :: g => by simp [srch, cov]
  | x :: f, [] => by by_cases h : x = ha <;> simp [srch, cov, h]
  | x :: f, y :: g => by
    have ih := srch_cov f g
    by_cases h1 : x = ha
    · simp [srch, cov, h1]
    by_cases h2 : y = ha
    · subst h2; simp [srch, cov, h1]
    by_cases h3 : x = pl
    · simp [srch, cov, h2, h3, ih]
    by_cases h4 : y = pl
    · subst h4; simp [srch, cov, h1, h3]
    by_cases h5 : x = y
    · subst h5; simp [srch, cov, h1, h3, ih]
    · simp [srch, cov, h1, h2, h3, h4, h5]

/-- The filter's levels, the hash alone and the hash behind one slash spelled out. -/
def spr (s : Bs) : List Bs := if s = ha then [pl, ha] else if s = [47, 35] then [[], pl, ha] else lvs s

def dol (x : Bs) : Bool := x.head? == some 36

theorem dol_no {x : Bs} (h : dol x = true) : x ≠ pl ∧ x ≠ ha ∧ x ≠ [] := by
  refine ⟨?_, ?_, ?_⟩ <;> (rintro rfl; exact absurd h (by decide))

/-- What the program answers of two filters: their shared levels; none where a first level that begins with a dollar meets the plus. -/
def shared (f g : Bs) : Option (List Bs) :=
  if isFilter f = true ∧ isFilter g = true then
    (if (spr f).headD [] ≠ (spr g).headD [] ∧ (dol ((spr f).headD []) = true ∨ dol ((spr g).headD []) = true) ∧ ((spr f).headD [] = pl ∨ (spr g).headD [] = pl) then none else srch (spr f) (spr g))
  else none

def covers (f g : Bs) : Bool := decide (shared f g = some (spr g))

/-- What the reference answers. -/
def coversR (f g : Bs) : Bool :=
  isFilter f && isFilter g && !(decide ((spr f).headD [] = pl) && dol ((spr g).headD [])) && cov (spr f) (spr g)

theorem covers_ref (f g : Bs) : covers f g = coversR f g := by
  unfold covers coversR shared
  by_cases hf : isFilter f = true
  · by_cases hg : isFilter g = true
    · rw [if_pos ⟨hf, hg⟩, hf, hg]
      simp only [Bool.true_and]
      generalize spr f = F
      generalize spr g = G
      have sc := srch_cov F G
      by_cases hd : F.headD [] = pl ∧ dol (G.headD []) = true
      · obtain ⟨h1, h2⟩ := hd
        have h3 := dol_no h2
        rw [if_pos ⟨by rw [h1]; exact fun e => h3.1 e.symm, .inr h2, .inl h1⟩, h1, h2]
        simp
      · have e : (decide (F.headD [] = pl) && dol (G.headD [])) = false := by
          cases hx : dol (G.headD []) with
          | false => simp
          | true => simp only [Bool.and_true, decide_eq_false_iff_not]; exact fun e => hd ⟨e, hx⟩
        rw [e]
        simp only [Bool.not_false, Bool.true_and]
        split
        · rename_i hc
          obtain ⟨c1, c2, c3⟩ := hc
          rcases c3 with c3 | c3
          · rcases c2 with c2 | c2
            · rw [c3] at c2; exact absurd c2 (by decide)
            · exact absurd ⟨c3, c2⟩ hd
          · have hcov : cov F G = false := by
              cases F with
              | nil => cases G with
                | nil => simp at c1
                | cons y g => rfl
              | cons x f => cases G with
                | nil => exact absurd c3 (by decide)
                | cons y g =>
                  simp only [List.headD_cons] at c1 c2 c3
                  subst c3
                  have hx := dol_no (c2.resolve_right (by decide))
                  simp [cov, hx.1, hx.2.1]
            rw [hcov]
            simp
        · cases hc : cov F G with
          | true => rw [hc] at sc; simp [sc]
          | false =>
            rw [hc] at sc
            rw [decide_eq_false_iff_not]
            intro e
            exact absurd (sc.1 e) (by simp)
    · simp [hg]
  · simp [hf]
end Tp
end Go.Proofs.YtkgbpildikjoiaaGreatDoor
