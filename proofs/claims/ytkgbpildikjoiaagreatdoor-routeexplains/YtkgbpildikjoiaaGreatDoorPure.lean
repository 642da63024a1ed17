/- Plain trees of a pattern's parts, and plain functions on them: the document's count of parts, the package's walk that counts down, of which kinds a pattern holds, as a question and as bits: they say the same. No program, no condition but those that each theorem names. -/
import Derived.Laws.BitsAllLaws
namespace Go.Proofs.YtkgbpildikjoiaaGreatDoor

/-- Patterns of depth n at most. -/
def Wt : Nat → Type
  | 0 => Empty
  | n + 1 => Int × Int × List (Wt n)

def Wt.op {n : Nat} (t : Wt (n + 1)) : Int := (show Int × Int × List (Wt n) from t).1
def Wt.nm {n : Nat} (t : Wt (n + 1)) : Int := (show Int × Int × List (Wt n) from t).2.1
def Wt.ks {n : Nat} (t : Wt (n + 1)) : List (Wt n) := (show Int × Int × List (Wt n) from t).2.2

/-- One part by itself. -/
def okW (o m : Int) (len : Nat) : Bool :=
  if o = 1 then decide (m = 0 ∧ len = 0)
  else if o = 2 then decide (0 ≤ m ∧ m < 14 ∧ len = 0)
  else if o = 3 then decide (0 ≤ m ∧ m < 10 ∧ len = 0)
  else if o = 4 ∨ o = 5 then decide (m = 0 ∧ 2 ≤ len)
  else if o = 6 then decide (m = 0 ∧ len = 1)
  else false
def Wt.ok {n : Nat} (t : Wt (n + 1)) : Bool := okW t.op t.nm t.ks.length

/-- The document's look: so many parts seen, or -1. -/
def lkL {T : Type} (c : T → Int → Int) : List T → Int → Int
  | [], s => s
  | t :: ts, s => if c t (s + 1) < 0 then -1 else lkL c ts (c t (s + 1))
def lk : Nat → (n : Nat) → Wt n → Int → Int
  | 0, _, _, _ => -1
  | _ + 1, 0, t, _ => t.elim
  | f + 1, n + 1, t, s => if 16384 < s ∨ t.ok = false then -1 else lkL (fun t s => lk f n t s) t.ks s

/-- The package's walk that counts down. -/
def vwL {T : Type} (c : T → Int → Bool × Int) : List T → Int → Bool × Int
  | [], l => (true, l)
  | t :: ts, l => if (c t l).1 = true then vwL c ts (c t l).2 else (false, (c t l).2)
def vw : Nat → (n : Nat) → Wt n → Int → Bool × Int
  | 0, _, _, left => (false, left)
  | _ + 1, 0, t, _ => t.elim
  | f + 1, n + 1, t, left => if left = 0 ∨ t.ok = false then (false, left) else vwL (fun t l => vw f n t l) t.ks (left - 1)

/-- A pattern all of whose parts are right by themselves. -/
def wgt : (n : Nat) → Wt n → Bool
  | 0, t => t.elim
  | n + 1, t => t.ok && t.ks.all (wgt n)

structure SayW (v : Bool × Int) (l : Int) (g : Bool) (s : Int) : Prop where
  same : v.1 = decide (0 ≤ l)
  fit : 0 ≤ l → v.2 = 16384 - l ∧ s ≤ l ∧ l ≤ 16384 ∧ g = true

theorem say_rowW {T : Type} (v : T → Int → Bool × Int) (c : T → Int → Int) (g : T → Bool) (ih : ∀ t s, 1 ≤ s → s ≤ 16385 → SayW (v t (16385 - s)) (c t s) (g t) s) :
    ∀ (ts : List T) (s : Int), 1 ≤ s → s ≤ 16384 → SayW (vwL v ts (16384 - s)) (lkL c ts s) (ts.all g) s := by
  intro ts
  induction ts with
  | nil => intro s h1 h2; exact ⟨by show true = decide (0 ≤ s); rw [decide_eq_true (by omega)], fun _ => ⟨rfl, Int.le_refl _, h2, rfl⟩⟩
  | cons t ts IH =>
    intro s h1 h2
    have S := ih t (s + 1) (by omega) (by omega)
    rw [show (16385 : Int) - (s + 1) = 16384 - s from by omega] at S
    simp only [vwL, lkL, List.all_cons]
    generalize v t (16384 - s) = V at S
    generalize c t (s + 1) = C at S
    by_cases hC : C < 0
    · have hV : V.1 = false := by rw [S.same]; simp; omega
      rw [if_pos hC, if_neg (by rw [hV]; simp)]
      exact ⟨by simp, fun h => by omega⟩
    · obtain ⟨e1, e2, e3, e4⟩ := S.fit (by omega)
      have hV : V.1 = true := by rw [S.same]; simp; omega
      rw [if_neg hC, if_pos hV, e1, e4, Bool.true_and]
      have N := IH C (by omega) e3
      exact ⟨N.same, fun h => by obtain ⟨n1, n2, n3, n4⟩ := N.fit h; exact ⟨n1, by omega, n3, n4⟩⟩

theorem sayW : ∀ (f n : Nat) (t : Wt n) (s : Int), 1 ≤ s → s ≤ 16385 → SayW (vw f n t (16385 - s)) (lk f n t s) (wgt n t) s := by
  intro f
  induction f with
  | zero => intro n t s _ _; exact ⟨by simp [vw, lk], fun h => by simp [lk] at h⟩
  | succ f ih =>
    intro n t s h1 h2
    match n, t with
    | 0, t => exact t.elim
    | n + 1, t =>
      simp only [lk, vw, wgt]
      by_cases hb : 16384 < s ∨ t.ok = false
      · have hb' : 16385 - s = 0 ∨ t.ok = false := by rcases hb with h | h; exact .inl (by omega); exact .inr h
        rw [if_pos hb, if_pos hb']
        exact ⟨by simp, fun h => by omega⟩
      · have hb' : ¬ (16385 - s = 0 ∨ t.ok = false) := fun h => hb (by rcases h with h | h; exact .inl (by omega); exact .inr h)
        rw [if_neg hb, if_neg hb']
        have ho : t.ok = true := by cases h : t.ok; exact absurd (.inr h) hb; rfl
        have R := say_rowW (fun t l => vw f n t l) (fun t s => lk f n t s) (wgt n) (fun t s a b => ih n t s a b) t.ks s h1 (by omega)
        rw [show (16384 : Int) - s = 16385 - s - 1 from by omega] at R
        rw [ho, Bool.true_and]
        exact R

theorem lkL_cons {T : Type} (c : T → Int → Int) (t : T) (ts : List T) (s : Int) : lkL c (t :: ts) s = if c t (s + 1) < 0 then -1 else lkL c ts (c t (s + 1)) := rfl
theorem drop_atW {T : Type} (l : List T) (j : Nat) (h : j < l.length) : l.drop j = l[j] :: l.drop (j + 1) := List.drop_eq_getElem_cons h

theorem lk_bd : ∀ (f n : Nat) (t : Wt n) (s : Int), 1 ≤ s → s ≤ 16385 → -1 ≤ lk f n t s ∧ lk f n t s ≤ 16384 := by
  intro f n t s h1 h2
  have S := sayW f n t s h1 h2
  by_cases h : 0 ≤ lk f n t s
  · have := S.fit h; omega
  · have : lk f n t s = -1 := by
      clear S
      match f, n, t with
      | 0, _, _ => rfl
      | f + 1, 0, t => exact t.elim
      | f + 1, n + 1, t =>
        simp only [lk] at h ⊢
        by_cases hb : 16384 < s ∨ t.ok = false
        · rw [if_pos hb]
        · rw [if_neg hb] at h ⊢
          have h0 : 0 ≤ s := by omega
          clear hb h1 h2
          generalize t.ks = ts at h ⊢
          induction ts generalizing s with
          | nil => exact absurd h0 h
          | cons t ts IH =>
            simp only [lkL] at h ⊢
            by_cases hc : lk f n t (s + 1) < 0
            · rw [if_pos hc]
            · rw [if_neg hc] at h ⊢; exact IH _ (by omega) h
    omega
/-- The document's table of methods: has kind k the method m. -/
def refHas (k m : Int) : Bool :=
  if m = 0 then k == 4 || k == 5 || k == 7 || k == 8 || k == 9 || k == 11 || k == 12
  else if m = 1 then k == 5 || k == 2 || k == 10
  else if m = 2 then k == 10 || k == 11 || k == 12
  else if m = 3 then k == 11 || k == 12
  else if m = 4 then k == 1 || k == 2 || k == 3 || k == 4 || k == 5
  else if m = 5 then k == 1 || k == 3
  else false

/-- An interface's methods. -/
def mths (f : Int) : List Int :=
  if f = 0 then [0] else if f = 1 then [1] else if f = 2 then [2] else if f = 3 then [3] else if f = 4 then [4] else if f = 5 then [5]
  else if f = 6 then [0, 1] else if f = 7 then [0, 4] else if f = 8 then [4, 5] else if f = 9 then [0, 1, 4] else []
/-- The first method that is lacking. -/
def lackL (k : Int) : List Int → Int
  | [] => -1
  | m :: l => if refHas k m = true then lackL k l else m
def lacks (k f : Int) : Int := if k < 0 ∨ 14 ≤ k then -1 else lackL k (mths f)
def impl (k f : Int) : Bool := decide (0 < k) && decide (k < 14) && decide (0 < (mths f).length) && (lacks k f == -1)

/-- Does a pattern hold of kind k. -/
def evk : (n : Nat) → Wt n → Int → Bool
  | 0, t, _ => t.elim
  | n + 1, t, k =>
    if t.op = 1 then k != 0
    else if t.op = 2 then k == t.nm || (t.nm == 11 && k == 12)
    else if t.op = 3 then impl k t.nm
    else if t.op = 4 then t.ks.any fun s => evk n s k
    else if t.op = 5 then t.ks.all fun s => evk n s k
    else if t.op = 6 then !(t.ks.any fun s => evk n s k)
    else false

/-- The kinds below j of which p says yes, as bits. -/
def kset (p : Int → Bool) : Nat → Nat
  | 0 => 0
  | j + 1 => if p j = true then kset p j ||| 2 ^ j else kset p j

theorem kset_lt (p : Int → Bool) : ∀ j, kset p j < 2 ^ j
  | 0 => by simp [kset]
  | j + 1 => by
    have h := kset_lt p j
    have h2 : 2 ^ j < 2 ^ (j + 1) := by rw [Nat.pow_succ]; have := Nat.two_pow_pos j; omega
    simp only [kset]
    by_cases hp : p j = true
    · rw [if_pos hp]; exact Nat.or_lt_two_pow (by omega) h2
    · rw [if_neg hp]; omega
theorem kset_bit (p : Int → Bool) : ∀ j k, (kset p j).testBit k = (decide (k < j) && p k)
  | 0, k => by simp [kset]
  | j + 1, k => by
    have h := kset_bit p j k
    simp only [kset]
    by_cases hp : p j = true
    · rw [if_pos hp, Nat.testBit_or, h, Nat.testBit_two_pow]
      by_cases hk : k = j
      · subst hk; simp [hp]
      · have : decide (k < j + 1) = decide (k < j) := by simp; omega
        rw [this]; simp; intro e; exact absurd e.symm hk
    · rw [if_neg hp, h]
      by_cases hk : k = j
      · subst hk; simp; simpa using hp
      · have : decide (k < j + 1) = decide (k < j) := by simp; omega
        rw [this]

/-- The document's kinds, as bits. -/
def km : (n : Nat) → Wt n → Nat
  | 0, t => t.elim
  | n + 1, t =>
    if t.op = 1 then 16382
    else if t.op = 2 then (if t.nm = 11 then 6144 else 2 ^ t.nm.toNat)
    else if t.op = 3 then kset (fun k => impl k t.nm) 14
    else if t.op = 4 then t.ks.foldl (fun s x => s ||| km n x) 0
    else if t.op = 5 then t.ks.foldl (fun s x => s &&& km n x) 16383
    else 16383 &&& (4294967295 - (match t.ks with | [] => 0 | x :: _ => km n x))

theorem kset_eq {a : Nat} (p : Int → Bool) (h : a < 16384) (hb : ∀ k : Nat, k < 14 → a.testBit k = p k) : a = kset p 14 := by
  refine Nat.eq_of_testBit_eq fun k => ?_
  rw [kset_bit]
  by_cases hk : k < 14
  · rw [hb k hk]; simp [hk]
  · have : a.testBit k = false := Nat.testBit_lt_two_pow (Nat.lt_of_lt_of_le h (by show 2 ^ 14 ≤ 2 ^ k; exact Nat.pow_le_pow_right (by decide) (by omega)))
    rw [this]; simp [hk]
theorem kset_ext {p q : Int → Bool} : ∀ j : Nat, (∀ k : Nat, k < j → p k = q k) → kset p j = kset q j
  | 0, _ => rfl
  | j + 1, h => by
    simp only [kset]
    rw [kset_ext j (fun k hk => h k (by omega)), h j (by omega)]

theorem or_fold {T : Type} (p : T → Int → Bool) : ∀ (l : List T) (q : Int → Bool), l.foldl (fun s x => s ||| kset (p x) 14) (kset q 14) = kset (fun k => q k || l.any fun x => p x k) 14
  | [], q => by simp
  | x :: l, q => by
    have e : kset q 14 ||| kset (p x) 14 = kset (fun k => q k || p x k) 14 := by
      refine kset_eq _ (Nat.or_lt_two_pow (n := 14) (kset_lt q 14) (kset_lt (p x) 14)) fun k hk => ?_
      rw [Nat.testBit_or, kset_bit, kset_bit]; simp [hk]
    rw [List.foldl_cons, e, or_fold p l]
    refine kset_ext 14 fun k _ => ?_
    simp [Bool.or_assoc]
theorem and_fold {T : Type} (p : T → Int → Bool) : ∀ (l : List T) (q : Int → Bool), l.foldl (fun s x => s &&& kset (p x) 14) (kset q 14) = kset (fun k => q k && l.all fun x => p x k) 14
  | [], q => by simp
  | x :: l, q => by
    have e : kset q 14 &&& kset (p x) 14 = kset (fun k => q k && p x k) 14 := by
      refine kset_eq _ (Nat.and_lt_two_pow (n := 14) _ (kset_lt (p x) 14)) fun k hk => ?_
      rw [Nat.testBit_and, kset_bit, kset_bit]; simp [hk]
    rw [List.foldl_cons, e, and_fold p l]
    refine kset_ext 14 fun k _ => ?_
    simp [Bool.and_assoc]
theorem not_mask (p : Int → Bool) : 16383 &&& (4294967295 - kset p 14) = kset (fun k => !p k) 14 := by
  have hl := kset_lt p 14
  refine kset_eq _ (Nat.and_lt_two_pow (n := 14) _ ?_ |> fun h => by rw [Nat.and_comm] at h; exact h) fun k hk => ?_
  · decide
  · have e : (4294967295 - kset p 14) = 2 ^ 32 - (kset p 14 + 1) := by omega
    rw [Nat.testBit_and, e, Nat.testBit_two_pow_sub_succ (by omega), kset_bit]
    have : (16383 : Nat).testBit k = true := by
      rw [show (16383 : Nat) = 2 ^ 14 - 1 from rfl, Nat.testBit_two_pow_sub_one]; simp [hk]
    rw [this]; simp [hk]; intro; omega

theorem foldl_ext {A B : Type} (f g : A → B → A) : ∀ (l : List B) (a : A), (∀ b ∈ l, ∀ a, f a b = g a b) → l.foldl f a = l.foldl g a
  | [], _, _ => rfl
  | b :: l, a, h => by
    rw [List.foldl_cons, List.foldl_cons, h b (by simp) a]
    exact foldl_ext f g l _ fun c hc => h c (by simp [hc])

theorem okW_op {o m : Int} {l : Nat} (h : okW o m l = true) : o = 1 ∨ o = 2 ∨ o = 3 ∨ o = 4 ∨ o = 5 ∨ o = 6 := by
  unfold okW at h
  by_cases h1 : o = 1; exact .inl h1
  by_cases h2 : o = 2; exact .inr (.inl h2)
  by_cases h3 : o = 3; exact .inr (.inr (.inl h3))
  by_cases h4 : o = 4; exact .inr (.inr (.inr (.inl h4)))
  by_cases h5 : o = 5; exact .inr (.inr (.inr (.inr (.inl h5))))
  by_cases h6 : o = 6; exact .inr (.inr (.inr (.inr (.inr h6))))
  simp [h1, h2, h3, h4, h5, h6] at h

/-- The document's kinds are those of which the pattern holds. -/
theorem km_kset : ∀ (n : Nat) (t : Wt n), wgt n t = true → km n t = kset (evk n t) 14
  | 0, t, _ => t.elim
  | n + 1, t, h => by
    simp only [wgt, Bool.and_eq_true, List.all_eq_true] at h
    obtain ⟨ho, hk⟩ := h
    have IH := fun x hx => km_kset n x (hk x hx)
    have hop := okW_op ho
    unfold Wt.ok at ho
    simp only [km, evk]
    rcases hop with e | e | e | e | e | e
    · simp only [e, if_true]; decide
    · simp only [e, if_true]
      rw [e] at ho
      have ho' : 0 ≤ t.nm ∧ t.nm < 14 := by have := of_decide_eq_true (show decide (0 ≤ t.nm ∧ t.nm < 14 ∧ t.ks.length = 0) = true from ho); exact ⟨this.1, this.2.1⟩
      have : t.nm = 0 ∨ t.nm = 1 ∨ t.nm = 2 ∨ t.nm = 3 ∨ t.nm = 4 ∨ t.nm = 5 ∨ t.nm = 6 ∨ t.nm = 7 ∨ t.nm = 8 ∨ t.nm = 9 ∨ t.nm = 10 ∨ t.nm = 11 ∨ t.nm = 12 ∨ t.nm = 13 := by omega
      simp only [show ¬ (2 : Int) = 1 by decide, if_false]
      rcases this with e | e | e | e | e | e | e | e | e | e | e | e | e | e <;> rw [e] <;> decide
    · simp only [e, if_true, show ¬ (3 : Int) = 1 by decide, show ¬ (3 : Int) = 2 by decide, if_false]
    · simp only [e, if_true, show ¬ (4 : Int) = 1 by decide, show ¬ (4 : Int) = 2 by decide, show ¬ (4 : Int) = 3 by decide, if_false]
      rw [foldl_ext _ (fun s x => s ||| kset (evk n x) 14) t.ks 0 (fun x hx a => by rw [IH x hx])]
      rw [show (0 : Nat) = kset (fun _ => false) 14 from by decide, or_fold]
      exact kset_ext 14 fun k _ => by simp
    · simp only [e, if_true, show ¬ (5 : Int) = 1 by decide, show ¬ (5 : Int) = 2 by decide, show ¬ (5 : Int) = 3 by decide, show ¬ (5 : Int) = 4 by decide, if_false]
      rw [foldl_ext _ (fun s x => s &&& kset (evk n x) 14) t.ks 16383 (fun x hx a => by rw [IH x hx])]
      rw [show (16383 : Nat) = kset (fun _ => true) 14 from by decide, and_fold]
      exact kset_ext 14 fun k _ => by simp
    · simp only [e, if_true, show ¬ (6 : Int) = 1 by decide, show ¬ (6 : Int) = 2 by decide, show ¬ (6 : Int) = 3 by decide, show ¬ (6 : Int) = 4 by decide, show ¬ (6 : Int) = 5 by decide, if_false]
      rw [e] at ho
      have ho' : t.ks.length = 1 := (of_decide_eq_true (show decide (t.nm = 0 ∧ t.ks.length = 1) = true from ho)).2
      match hks : t.ks, ho' with
      | [x], _ =>
        show 16383 &&& (4294967295 - km n x) = _
        rw [IH x (by rw [hks]; simp), not_mask]
        exact kset_ext 14 fun k _ => by simp

theorem kset_shr (p : Int → Bool) (k : Nat) (hk : k < 14) : (kset p 14 / 2 ^ k) % 2 = if p k = true then 1 else 0 := by
  have := kset_bit p 14 k
  rw [Nat.testBit_eq_decide_div_mod_eq] at this
  by_cases hp : p k = true
  · rw [if_pos hp]; rw [hp] at this; simpa [hk] using this
  · rw [if_neg hp]
    have hp' : p k = false := by simpa using hp
    rw [hp'] at this; simp at this; omega
end Go.Proofs.YtkgbpildikjoiaaGreatDoor
