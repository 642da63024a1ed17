/- Plain trees of a pattern's parts, and plain functions on them: the document's count of parts, the package's walk that counts down, of which kinds a pattern holds, as a question and as bits: they say the same. No program, no condition but those that each theorem names. -/
import Derived.Laws.BitsAllLaws
namespace Go.Proofs.YtcbplamomhimiaaDoor

/-- Patterns of depth n at most. -/
def Wt : Nat → Type
  | 0 => Empty
  | n + 1 => Int × Int × List (Wt n)

def Wt.op {n : Nat} (t : Wt (n + 1)) : Int := (show Int × Int × List (Wt n) from t).1
def Wt.nm {n : Nat} (t : Wt (n + 1)) : Int := (show Int × Int × List (Wt n) from t).2.1
def Wt.ks {n : Nat} (t : Wt (n + 1)) : List (Wt n) := (show Int × Int × List (Wt n) from t).2.2

/-- One part by itself. -/
def okW (o m : Int) (len : Nat) : Bool :=
  if o = 1 then decide (m = 0 ∧ len = 0)
  else if o = 2 then decide (0 ≤ m ∧ m < 14 ∧ len = 0)
  else if o = 3 then decide (0 ≤ m ∧ m < 10 ∧ len = 0)
  else if o = 4 ∨ o = 5 then decide (m = 0 ∧ 2 ≤ len)
  else if o = 6 then decide (m = 0 ∧ len = 1)
  else false
def Wt.ok {n : Nat} (t : Wt (n + 1)) : Bool := okW t.op t.nm t.ks.length

/-- The document's look: so many parts seen, or -1. -/
def lkL {T : Type} (c : T → Int → Int) : List T → Int → Int
  | [], s => s
  | t :: ts, s => if c t (s + 1) < 0 then -1 else lkL c ts (c t (s + 1))
def lk : Nat → (n : Nat) → Wt n → Int → Int
  | 0, _, _, _ => -1
  | _ + 1, 0, t, _ => t.elim
  | f + 1, n + 1, t, s => if 16384 < s ∨ t.ok = false then -1 else lkL (fun t s => lk f n t s) t.ks s

/-- The package's walk that counts down. -/
def vwL {T : Type} (c : T → Int → Bool × Int) : List T → Int → Bool × Int
  | [], l => (true, l)
  | t :: ts, l => if (c t l).1 = true then vwL c ts (c t l).2 else (false, (c t l).2)
def vw : Nat → (n : Nat) → Wt n → Int → Bool × Int
  | 0, _, _, left => (false, left)
  | _ + 1, 0, t, _ => t.elim
  | f + 1, n + 1, t, left => if left = 0 ∨ t.ok = false then (false, left) else vwL (fun t l => vw f n t l) t.ks (left - 1)

/-- A pattern all of whose parts are right by themselves. -/
def wgt : (n : Nat) → Wt n → Bool
  | 0, t => t.elim
  | n + 1, t => t.ok && t.ks.all (wgt n)

structure SayW (v : Bool × Int) (l : Int) (g : Bool) (s : Int) : Prop where
  same : v.1 = decide (0 ≤ l)
  fit : 0 ≤ l → v.2 = 16384 - l ∧ s ≤ l ∧ l ≤ 16384 ∧ g = true

theorem say_rowW {T : Type} (v : T → Int → Bool × Int) (c : T → Int → Int) (g : T → Bool) (ih : ∀ t s, 1 ≤ s → s ≤ 16385 → SayW (v t (16385 - s)) (c t s) (g t) s) :
    ∀ (ts : List T) (s : Int), 1 ≤ s → s ≤ 16384 → SayW (vwL v ts (16384 - s)) (lkL c ts s) (ts.all g) s := by
  intro ts
  induction ts with
  | nil => intro s h1 h2; exact ⟨by show true = decide (0 ≤ s); rw [decide_eq_true (by omega)], fun _ => ⟨rfl, Int.le_refl _, h2, rfl⟩⟩
  | cons t ts IH =>
    intro s h1 h2
    have S := ih t (s + 1) (by omega) (by omega)
    rw [show (16385 : Int) - (s + 1) = 16384 - s from by omega] at S
    simp only [vwL, lkL, List.all_cons]
    generalize v t (16384 - s) = V at S
    generalize c t (s + 1) = C at S
    by_cases hC : C < 0
    · have hV : V.1 = false := by rw [S.same]; simp; omega
      rw [if_pos hC, if_neg (by rw [hV]; simp)]
      exact ⟨by simp, fun h => by omega⟩
    · obtain ⟨e1, e2, e3, e4⟩ := S.fit (by omega)
      have hV : V.1 = true := by rw [S.same]; simp; omega
      rw [if_neg hC, if_pos hV, e1, e4, Bool.true_and]
      have N := IH C (by omega) e3
      exact ⟨N.same, fun h => by obtain ⟨n1, n2, n3, n4⟩ := N.fit h; exact ⟨n1, by omega, n3, n4⟩⟩

theorem sayW : ∀ (f n : Nat) (t : Wt n) (s : Int), 1 ≤ s → s ≤ 16385 → SayW (vw f n t (16385 - s)) (lk f n t s) (wgt n t) s := by
  intro f
  induction f with
  | zero => intro n t s _ _; exact ⟨by simp [vw, lk], fun h => by simp [lk] at h⟩
  | succ f ih =>
    intro n t s h1 h2
    match n, t with
    | 0, t => exact t.elim
    | n + 1, t =>
      simp only [lk, vw, wgt]
      by_cases hb : 16384 < s ∨ t.ok = false
      · have hb' : 16385 - s = 0 ∨ t.ok = false := by rcases hb with h | h; exact .inl (by omega); exact .inr h
        rw [if_pos hb, if_pos hb']
        exact ⟨by simp, fun h => by omega⟩
      · have hb' : ¬ (16385 - s = 0 ∨ t.ok = false) := fun h => hb (by rcases h with h | h; exact .inl (by omega); exact .inr h)
        rw [if_neg hb, if_neg hb']
        have ho : t.ok = true := by cases h : t.ok; exact absurd (.inr h) hb; rfl
        have R := say_rowW (fun t l => vw f n t l) (fun t s => lk f n t s) (wgt n) (fun t s a b => ih n t s a b) t.ks s h1 (by omega)
        rw [show (16384 : Int) - s = 16385 - s - 1 from by omega] at R
        rw [ho, Bool.true_and]
        exact R

theorem vwL_cons {T : Type} (c : T → Int → Bool × Int) (t : T) (ts : List T) (l : Int) : vwL c (t :: ts) l = if (c t l).1 = true then vwL c ts (c t l).2 else (false, (c t l).2) := rfl
theorem lkL_cons {T : Type} (c : T → Int → Int) (t : T) (ts : List T) (s : Int) : lkL c (t :: ts) s = if c t (s + 1) < 0 then -1 else lkL c ts (c t (s + 1)) := rfl
theorem drop_atW {T : Type} (l : List T) (j : Nat) (h : j < l.length) : l.drop j = l[j] :: l.drop (j + 1) := List.drop_eq_getElem_cons h

theorem lkL_bd {T : Type} (c : T → Int → Int) (ih : ∀ t s, s ≤ 16385 → -1 ≤ c t s ∧ c t s ≤ 16384) : ∀ (ts : List T) (s : Int), -1 ≤ s → s ≤ 16384 → -1 ≤ lkL c ts s ∧ lkL c ts s ≤ 16384 := by
  intro ts
  induction ts with
  | nil => intro s h1 h2; exact ⟨h1, h2⟩
  | cons t ts IH =>
    intro s h1 h2
    have S := ih t (s + 1) (by omega)
    rw [lkL_cons]
    by_cases h : c t (s + 1) < 0
    · rw [if_pos h]; omega
    · rw [if_neg h]; exact IH _ S.1 S.2
theorem lk_bd : ∀ (f n : Nat) (t : Wt n) (s : Int), 1 ≤ s → s ≤ 16385 → -1 ≤ lk f n t s ∧ lk f n t s ≤ 16384 := by
  intro f n t s h1 h2
  have S := sayW f n t s h1 h2
  by_cases h : 0 ≤ lk f n t s
  · have := S.fit h; omega
  · have : lk f n t s = -1 := by
      clear S
      match f, n, t with
      | 0, _, _ => rfl
      | f + 1, 0, t => exact t.elim
      | f + 1, n + 1, t =>
        simp only [lk] at h ⊢
        by_cases hb : 16384 < s ∨ t.ok = false
        · rw [if_pos hb]
        · rw [if_neg hb] at h ⊢
          have h0 : 0 ≤ s := by omega
          clear hb h1 h2
          generalize t.ks = ts at h ⊢
          induction ts generalizing s with
          | nil => exact absurd h0 h
          | cons t ts IH =>
            simp only [lkL] at h ⊢
            by_cases hc : lk f n t (s + 1) < 0
            · rw [if_pos hc]
            · rw [if_neg hc] at h ⊢; exact IH _ (by omega) h
    omega
theorem okW_op {o m : Int} {l : Nat} (h : okW o m l = true) : o = 1 ∨ o = 2 ∨ o = 3 ∨ o = 4 ∨ o = 5 ∨ o = 6 := by
  unfold okW at h
  by_cases h1 : o = 1; exact .inl h1
  by_cases h2 : o = 2; exact .inr (.inl h2)
  by_cases h3 : o = 3; exact .inr (.inr (.inl h3))
  by_cases h4 : o = 4; exact .inr (.inr (.inr (.inl h4)))
  by_cases h5 : o = 5; exact .inr (.inr (.inr (.inr (.inl h5))))
  by_cases h6 : o = 6; exact .inr (.inr (.inr (.inr (.inr h6))))
  simp [h1, h2, h3, h4, h5, h6] at h

end Go.Proofs.YtcbplamomhimiaaDoor
