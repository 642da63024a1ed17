/- Plain trees of a pattern's parts, and plain functions on them: the document's count of parts, the package's walk that counts down, of which kinds a pattern holds, as a question and as bits: they say the same. No program, no condition but those that each theorem names. -/
import Derived.Laws.BitsAllLaws
import Derived.Test.YtajagjcfmaggiaaGreatDoorRows
import Derived.WalkKit
import Derived.WalkSpells
import Derived.WalkLawsBesides
import Derived.Deep.QuietTactic
import Derived.BigQuiet
import Derived.Stop.Asserts
import Derived.Deep.RegionHeld3
import Derived.Lib.Hide
import Derived.Lib.ConvBytes
import Derived.Lib.AtoiErrMem
import Derived.Laws.IdiomStrings
import Derived.Defers
import Derived.Recover
namespace Go.Proofs.YtajagjcfmaggiaaGreatDoor

/-- Patterns of depth n at most. -/
def Wt : Nat → Type
  | 0 => Empty
  | n + 1 => Int × Int × List (Wt n)

def Wt.op {n : Nat} (t : Wt (n + 1)) : Int := (show Int × Int × List (Wt n) from t).1
def Wt.nm {n : Nat} (t : Wt (n + 1)) : Int := (show Int × Int × List (Wt n) from t).2.1
def Wt.ks {n : Nat} (t : Wt (n + 1)) : List (Wt n) := (show Int × Int × List (Wt n) from t).2.2

/-- One part by itself. -/
def okW (o m : Int) (len : Nat) : Bool :=
  if o = 1 then decide (m = 0 ∧ len = 0)
  else if o = 2 then decide (0 ≤ m ∧ m < 14 ∧ len = 0)
  else if o = 3 then decide (0 ≤ m ∧ m < 10 ∧ len = 0)
  else if o = 4 ∨ o = 5 then decide (m = 0 ∧ 2 ≤ len)
  else if o = 6 then decide (m = 0 ∧ len = 1)
  else false
def Wt.ok {n : Nat} (t : Wt (n + 1)) : Bool := okW t.op t.nm t.ks.length

/-- The document's look: so many parts seen, or -1. -/
def lkL {T : Type} (c : T → Int → Int) : List T → Int → Int
  | [], s => s
  | t :: ts, s => if c t (s + 1) < 0 then -1 else lkL c ts (c t (s + 1))
def lk : Nat → (n : Nat) → Wt n → Int → Int
  | 0, _, _, _ => -1
  | _ + 1, 0, t, _ => t.elim
  | f + 1, n + 1, t, s => if 16384 < s ∨ t.ok = false then -1 else lkL (fun t s => lk f n t s) t.ks s

/-- The package's walk that counts down. -/
def vwL {T : Type} (c : T → Int → Bool × Int) : List T → Int → Bool × Int
  | [], l => (true, l)
  | t :: ts, l => if (c t l).1 = true then vwL c ts (c t l).2 else (false, (c t l).2)
def vw : Nat → (n : Nat) → Wt n → Int → Bool × Int
  | 0, _, _, left => (false, left)
  | _ + 1, 0, t, _ => t.elim
  | f + 1, n + 1, t, left => if left = 0 ∨ t.ok = false then (false, left) else vwL (fun t l => vw f n t l) t.ks (left - 1)

/-- A pattern all of whose parts are right by themselves. -/
def wgt : (n : Nat) → Wt n → Bool
  | 0, t => t.elim
  | n + 1, t => t.ok && t.ks.all (wgt n)

structure SayW (v : Bool × Int) (l : Int) (g : Bool) (s : Int) : Prop where
  same : v.1 = decide (0 ≤ l)
  fit : 0 ≤ l → v.2 = 16384 - l ∧ s ≤ l ∧ l ≤ 16384 ∧ g = true

theorem say_rowW {T : Type} (v : T → Int → Bool × Int) (c : T → Int → Int) (g : T → Bool) (ih : ∀ t s, 1 ≤ s → s ≤ 16385 → SayW (v t (16385 - s)) (c t s) (g t) s) :
    ∀ (ts : List T) (s : Int), 1 ≤ s → s ≤ 16384 → SayW (vwL v ts (16384 - s)) (lkL c ts s) (ts.all g) s := by
  intro ts
  induction ts with
  | nil => intro s h1 h2; exact ⟨by show true = decide (0 ≤ s); rw [decide_eq_true (by omega)], fun _ => ⟨rfl, Int.le_refl _, h2, rfl⟩⟩
  | cons t ts IH =>
    intro s h1 h2
    have S := ih t (s + 1) (by omega) (by omega)
    rw [show (16385 : Int) - (s + 1) = 16384 - s from by omega] at S
    simp only [vwL, lkL, List.all_cons]
    generalize v t (16384 - s) = V at S
    generalize c t (s + 1) = C at S
    by_cases hC : C < 0
    · have hV : V.1 = false := by rw [S.same]; simp; omega
      rw [if_pos hC, if_neg (by rw [hV]; simp)]
      exact ⟨by simp, fun h => by omega⟩
    · obtain ⟨e1, e2, e3, e4⟩ := S.fit (by omega)
      have hV : V.1 = true := by rw [S.same]; simp; omega
      rw [if_neg hC, if_pos hV, e1, e4, Bool.true_and]
      have N := IH C (by omega) e3
      exact ⟨N.same, fun h => by obtain ⟨n1, n2, n3, n4⟩ := N.fit h; exact ⟨n1, by omega, n3, n4⟩⟩

theorem sayW : ∀ (f n : Nat) (t : Wt n) (s : Int), 1 ≤ s → s ≤ 16385 → SayW (vw f n t (16385 - s)) (lk f n t s) (wgt n t) s := by
  intro f
  induction f with
  | zero => intro n t s _ _; exact ⟨by simp [vw, lk], fun h => by simp [lk] at h⟩
  | succ f ih =>
    intro n t s h1 h2
    match n, t with
    | 0, t => exact t.elim
    | n + 1, t =>
      simp only [lk, vw, wgt]
      by_cases hb : 16384 < s ∨ t.ok = false
      · have hb' : 16385 - s = 0 ∨ t.ok = false := by rcases hb with h | h; exact .inl (by omega); exact .inr h
        rw [if_pos hb, if_pos hb']
        exact ⟨by simp, fun h => by omega⟩
      · have hb' : ¬ (16385 - s = 0 ∨ t.ok = false) := fun h => hb (by rcases h with h | h; exact .inl (by omega); exact .inr h)
        rw [if_neg hb, if_neg hb']
        have ho : t.ok = true := by cases h : t.ok; exact absurd (.inr h) hb; rfl
        have R := say_rowW (fun t l => vw f n t l) (fun t s => lk f n t s) (wgt n) (fun t s a b => ih n t s a b) t.ks s h1 (by omega)
        rw [show (16384 : Int) - s = 16385 - s - 1 from by omega] at R
        rw [ho, Bool.true_and]
        exact R

theorem vwL_cons {T : Type} (c : T → Int → Bool × Int) (t : T) (ts : List T) (l : Int) : vwL c (t :: ts) l = if (c t l).1 = true then vwL c ts (c t l).2 else (false, (c t l).2) := rfl
theorem lkL_cons {T : Type} (c : T → Int → Int) (t : T) (ts : List T) (s : Int) : lkL c (t :: ts) s = if c t (s + 1) < 0 then -1 else lkL c ts (c t (s + 1)) := rfl
theorem drop_atW {T : Type} (l : List T) (j : Nat) (h : j < l.length) : l.drop j = l[j] :: l.drop (j + 1) := List.drop_eq_getElem_cons h

theorem lk_bd : ∀ (f n : Nat) (t : Wt n) (s : Int), 1 ≤ s → s ≤ 16385 → -1 ≤ lk f n t s ∧ lk f n t s ≤ 16384 := by
  intro f n t s h1 h2
  have S := sayW f n t s h1 h2
  by_cases h : 0 ≤ lk f n t s
  · have := S.fit h; omega
  · have : lk f n t s = -1 := by
      clear S
      match f, n, t with
      | 0, _, _ => rfl
      | f + 1, 0, t => exact t.elim
      | f + 1, n + 1, t =>
        simp only [lk] at h ⊢
        by_cases hb : 16384 < s ∨ t.ok = false
        · rw [if_pos hb]
        · rw [if_neg hb] at h ⊢
          have h0 : 0 ≤ s := by omega
          clear hb h1 h2
          generalize t.ks = ts at h ⊢
          induction ts generalizing s with
          | nil => exact absurd h0 h
          | cons t ts IH =>
            simp only [lkL] at h ⊢
            by_cases hc : lk f n t (s + 1) < 0
            · rw [if_pos hc]
            · rw [if_neg hc] at h ⊢; exact IH _ (by omega) h
    omega
/-- The document's table of methods: has kind k the method m. -/
def refHas (k m : Int) : Bool :=
  if m = 0 then k == 4 || k == 5 || k == 7 || k == 8 || k == 9 || k == 11 || k == 12
  else if m = 1 then k == 5 || k == 2 || k == 10
  else if m = 2 then k == 10 || k == 11 || k == 12
  else if m = 3 then k == 11 || k == 12
  else if m = 4 then k == 1 || k == 2 || k == 3 || k == 4 || k == 5
  else if m = 5 then k == 1 || k == 3
  else false

/-- An interface's methods. -/
def mths (f : Int) : List Int :=
  if f = 0 then [0] else if f = 1 then [1] else if f = 2 then [2] else if f = 3 then [3] else if f = 4 then [4] else if f = 5 then [5]
  else if f = 6 then [0, 1] else if f = 7 then [0, 4] else if f = 8 then [4, 5] else if f = 9 then [0, 1, 4] else []
/-- The first method that is lacking. -/
def lackL (k : Int) : List Int → Int
  | [] => -1
  | m :: l => if refHas k m = true then lackL k l else m
def lacks (k f : Int) : Int := if k < 0 ∨ 14 ≤ k then -1 else lackL k (mths f)
def impl (k f : Int) : Bool := decide (0 < k) && decide (k < 14) && decide (0 < (mths f).length) && (lacks k f == -1)

/-- Does a pattern hold of kind k. -/
def evk : (n : Nat) → Wt n → Int → Bool
  | 0, t, _ => t.elim
  | n + 1, t, k =>
    if t.op = 1 then k != 0
    else if t.op = 2 then k == t.nm || (t.nm == 11 && k == 12)
    else if t.op = 3 then impl k t.nm
    else if t.op = 4 then t.ks.any fun s => evk n s k
    else if t.op = 5 then t.ks.all fun s => evk n s k
    else if t.op = 6 then !(t.ks.any fun s => evk n s k)
    else false

/-- The kinds below j of which p says yes, as bits. -/
def kset (p : Int → Bool) : Nat → Nat
  | 0 => 0
  | j + 1 => if p j = true then kset p j ||| 2 ^ j else kset p j

theorem kset_lt (p : Int → Bool) : ∀ j, kset p j < 2 ^ j
  | 0 => by simp [kset]
  | j + 1 => by
    have h := kset_lt p j
    have h2 : 2 ^ j < 2 ^ (j + 1) := by rw [Nat.pow_succ]; have := Nat.two_pow_pos j; omega
    simp only [kset]
    by_cases hp : p j = true
    · rw [if_pos hp]; exact Nat.or_lt_two_pow (by omega) h2
    · rw [if_neg hp]; omega
theorem kset_bit (p : Int → Bool) : ∀ j k, (kset p j).testBit k = (decide (k < j) && p k)
  | 0, k => by simp [kset]
  | j + 1, k => by
    have h := kset_bit p j k
    simp only [kset]
    by_cases hp : p j = true
    · rw [if_pos hp, Nat.testBit_or, h, Nat.testBit_two_pow]
      by_cases hk : k = j
      · subst hk; simp [hp]
      · have : decide (k < j + 1) = decide (k < j) := by simp; omega
        rw [this]; simp; intro e; exact absurd e.symm hk
    · rw [if_neg hp, h]
      by_cases hk : k = j
      · subst hk; simp; simpa using hp
      · have : decide (k < j + 1) = decide (k < j) := by simp; omega
        rw [this]

/-- The document's kinds, as bits. -/
def km : (n : Nat) → Wt n → Nat
  | 0, t => t.elim
  | n + 1, t =>
    if t.op = 1 then 16382
    else if t.op = 2 then (if t.nm = 11 then 6144 else 2 ^ t.nm.toNat)
    else if t.op = 3 then kset (fun k => impl k t.nm) 14
    else if t.op = 4 then t.ks.foldl (fun s x => s ||| km n x) 0
    else if t.op = 5 then t.ks.foldl (fun s x => s &&& km n x) 16383
    else 16383 &&& (4294967295 - (match t.ks with | [] => 0 | x :: _ => km n x))

theorem kset_eq {a : Nat} (p : Int → Bool) (h : a < 16384) (hb : ∀ k : Nat, k < 14 → a.testBit k = p k) : a = kset p 14 := by
  refine Nat.eq_of_testBit_eq fun k => ?_
  rw [kset_bit]
  by_cases hk : k < 14
  · rw [hb k hk]; simp [hk]
  · have : a.testBit k = false := Nat.testBit_lt_two_pow (Nat.lt_of_lt_of_le h (by show 2 ^ 14 ≤ 2 ^ k; exact Nat.pow_le_pow_right (by decide) (by omega)))
    rw [this]; simp [hk]
theorem kset_ext {p q : Int → Bool} : ∀ j : Nat, (∀ k : Nat, k < j → p k = q k) → kset p j = kset q j
  | 0, _ => rfl
  | j + 1, h => by
    simp only [kset]
    rw [kset_ext j (fun k hk => h k (by omega)), h j (by omega)]

theorem or_fold {T : Type} (p : T → Int → Bool) : ∀ (l : List T) (q : Int → Bool), l.foldl (fun s x => s ||| kset (p x) 14) (kset q 14) = kset (fun k => q k || l.any fun x => p x k) 14
  | [], q => by simp
  | x :: l, q => by
    have e : kset q 14 ||| kset (p x) 14 = kset (fun k => q k || p x k) 14 := by
      refine kset_eq _ (Nat.or_lt_two_pow (n := 14) (kset_lt q 14) (kset_lt (p x) 14)) fun k hk => ?_
      rw [Nat.testBit_or, kset_bit, kset_bit]; simp [hk]
    rw [List.foldl_cons, e, or_fold p l]
    refine kset_ext 14 fun k _ => ?_
    simp [Bool.or_assoc]
theorem and_fold {T : Type} (p : T → Int → Bool) : ∀ (l : List T) (q : Int → Bool), l.foldl (fun s x => s &&& kset (p x) 14) (kset q 14) = kset (fun k => q k && l.all fun x => p x k) 14
  | [], q => by simp
  | x :: l, q => by
    have e : kset q 14 &&& kset (p x) 14 = kset (fun k => q k && p x k) 14 := by
      refine kset_eq _ (Nat.and_lt_two_pow (n := 14) _ (kset_lt (p x) 14)) fun k hk => ?_
      rw [Nat.testBit_and, kset_bit, kset_bit]; simp [hk]
    rw [List.foldl_cons, e, and_fold p l]
    refine kset_ext 14 fun k _ => ?_
    simp [Bool.and_assoc]
theorem not_mask (p : Int → Bool) : 16383 &&& (4294967295 - kset p 14) = kset (fun k => !p k) 14 := by
  have hl := kset_lt p 14
  refine kset_eq _ (Nat.and_lt_two_pow (n := 14) _ ?_ |> fun h => by rw [Nat.and_comm] at h; exact h) fun k hk => ?_
  · decide
  · have e : (4294967295 - kset p 14) = 2 ^ 32 - (kset p 14 + 1) := by omega
    rw [Nat.testBit_and, e, Nat.testBit_two_pow_sub_succ (by omega), kset_bit]
    have : (16383 : Nat).testBit k = true := by
      rw [show (16383 : Nat) = 2 ^ 14 - 1 from rfl, Nat.testBit_two_pow_sub_one]; simp [hk]
    rw [this]; simp [hk]; intro; omega

theorem foldl_ext {A B : Type} (f g : A → B → A) : ∀ (l : List B) (a : A), (∀ b ∈ l, ∀ a, f a b = g a b) → l.foldl f a = l.foldl g a
  | [], _, _ => rfl
  | b :: l, a, h => by
    rw [List.foldl_cons, List.foldl_cons, h b (by simp) a]
    exact foldl_ext f g l _ fun c hc => h c (by simp [hc])

theorem okW_op {o m : Int} {l : Nat} (h : okW o m l = true) : o = 1 ∨ o = 2 ∨ o = 3 ∨ o = 4 ∨ o = 5 ∨ o = 6 := by
  unfold okW at h
  by_cases h1 : o = 1; exact .inl h1
  by_cases h2 : o = 2; exact .inr (.inl h2)
  by_cases h3 : o = 3; exact .inr (.inr (.inl h3))
  by_cases h4 : o = 4; exact .inr (.inr (.inr (.inl h4)))
  by_cases h5 : o = 5; exact .inr (.inr (.inr (.inr (.inl h5))))
  by_cases h6 : o = 6; exact .inr (.inr (.inr (.inr (.inr h6))))
  simp [h1, h2, h3, h4, h5, h6] at h

/-- The document's kinds are those of which the pattern holds. -/
theorem km_kset : ∀ (n : Nat) (t : Wt n), wgt n t = true → km n t = kset (evk n t) 14
  | 0, t, _ => t.elim
  | n + 1, t, h => by
    simp only [wgt, Bool.and_eq_true, List.all_eq_true] at h
    obtain ⟨ho, hk⟩ := h
    have IH := fun x hx => km_kset n x (hk x hx)
    have hop := okW_op ho
    unfold Wt.ok at ho
    simp only [km, evk]
    rcases hop with e | e | e | e | e | e
    · simp only [e, if_true]; decide
    · simp only [e, if_true]
      rw [e] at ho
      have ho' : 0 ≤ t.nm ∧ t.nm < 14 := by have := of_decide_eq_true (show decide (0 ≤ t.nm ∧ t.nm < 14 ∧ t.ks.length = 0) = true from ho); exact ⟨this.1, this.2.1⟩
      have : t.nm = 0 ∨ t.nm = 1 ∨ t.nm = 2 ∨ t.nm = 3 ∨ t.nm = 4 ∨ t.nm = 5 ∨ t.nm = 6 ∨ t.nm = 7 ∨ t.nm = 8 ∨ t.nm = 9 ∨ t.nm = 10 ∨ t.nm = 11 ∨ t.nm = 12 ∨ t.nm = 13 := by omega
      simp only [show ¬ (2 : Int) = 1 by decide, if_false]
      rcases this with e | e | e | e | e | e | e | e | e | e | e | e | e | e <;> rw [e] <;> decide
    · simp only [e, if_true, show ¬ (3 : Int) = 1 by decide, show ¬ (3 : Int) = 2 by decide, if_false]
    · simp only [e, if_true, show ¬ (4 : Int) = 1 by decide, show ¬ (4 : Int) = 2 by decide, show ¬ (4 : Int) = 3 by decide, if_false]
      rw [foldl_ext _ (fun s x => s ||| kset (evk n x) 14) t.ks 0 (fun x hx a => by rw [IH x hx])]
      rw [show (0 : Nat) = kset (fun _ => false) 14 from by decide, or_fold]
      exact kset_ext 14 fun k _ => by simp
    · simp only [e, if_true, show ¬ (5 : Int) = 1 by decide, show ¬ (5 : Int) = 2 by decide, show ¬ (5 : Int) = 3 by decide, show ¬ (5 : Int) = 4 by decide, if_false]
      rw [foldl_ext _ (fun s x => s &&& kset (evk n x) 14) t.ks 16383 (fun x hx a => by rw [IH x hx])]
      rw [show (16383 : Nat) = kset (fun _ => true) 14 from by decide, and_fold]
      exact kset_ext 14 fun k _ => by simp
    · simp only [e, if_true, show ¬ (6 : Int) = 1 by decide, show ¬ (6 : Int) = 2 by decide, show ¬ (6 : Int) = 3 by decide, show ¬ (6 : Int) = 4 by decide, show ¬ (6 : Int) = 5 by decide, if_false]
      rw [e] at ho
      have ho' : t.ks.length = 1 := (of_decide_eq_true (show decide (t.nm = 0 ∧ t.ks.length = 1) = true from ho)).2
      match hks : t.ks, ho' with
      | [x], _ =>
        show 16383 &&& (4294967295 - km n x) = _
        rw [IH x (by rw [hks]; simp), not_mask]
        exact kset_ext 14 fun k _ => by simp

theorem kset_shr (p : Int → Bool) (k : Nat) (hk : k < 14) : (kset p 14 / 2 ^ k) % 2 = if p k = true then 1 else 0 := by
  have := kset_bit p 14 k
  rw [Nat.testBit_eq_decide_div_mod_eq] at this
  by_cases hp : p k = true
  · rw [if_pos hp]; rw [hp] at this; simpa [hk] using this
  · rw [if_neg hp]
    have hp' : p k = false := by simpa using hp
    rw [hp'] at this; simp at this; omega
end Go.Proofs.YtajagjcfmaggiaaGreatDoor
/- The ground over this seat's program: what an assertion answers, which interface values stand for a kind; no condition but those that each theorem names. -/
namespace Go.Proofs.YtajagjcfmaggiaaGreatDoor
open Go.RowKit

/-- An assertion to a type that is no interface. -/
theorem assert_to {P : Program} {t x asserted : TypeId} {d : TypeDesc} {v z : Value} {w : World}
    (hU : P.underlying asserted = some d) (hd : ∀ m, d ≠ .interface m) (hz : (zeroValue asserted).run P w = .ok z w) :
    (Instr.typeAssert (.iface t v) x asserted true).run P w = .ok (.tuple #[if t = asserted then v else z, .bool (decide (t = asserted))]) w := by
  cases d with
  | interface m => exact absurd rfl (hd m)
  | _ => by_cases h : t = asserted <;> simp [Instr.typeAssert, run_underlying hU, hz, h]

theorem assert_nil {P : Program} {x asserted : TypeId} {d : TypeDesc} {z : Value} {w : World}
    (hU : P.underlying asserted = some d) (hz : (zeroValue asserted).run P w = .ok z w) :
    (Instr.typeAssert .nilIface x asserted true).run P w = .ok (.tuple #[z, .bool false]) w := by
  cases d <;> simp [Instr.typeAssert, run_underlying hU, hz]

/-- The type of a kind. -/
def tyk (k : Int) : Nat :=
  if k = 1 then 140 else if k = 2 then 141 else if k = 3 then 142 else if k = 4 then 101 else if k = 5 then 143 else if k = 6 then 144 else if k = 7 then 147
  else if k = 8 then 149 else if k = 9 then 152 else if k = 10 then 154 else if k = 11 then 155 else if k = 12 then 155 else 157

/-- An interface value of some type, or nil. -/
def Sx (v : Value) : Prop := v = .nilIface ∨ ∃ T z, v = .iface T z

/-- An interface value of kind k: its type, and its shape where it is a struct or a pointer. -/
def Kd (k : Int) (u : Value) : Prop :=
  ((k < 1 ∨ 13 < k) ∧ u = .nilIface) ∨ (1 ≤ k ∧ k ≤ 13 ∧ ∃ v, u = .iface (tyk k) v ∧ (k = 9 → ∃ a b, v = .agg #[a, b] ∧ Sx a ∧ Sx b) ∧ (k = 10 → ∃ c s, v = .agg #[.int .i64 c, .string s]) ∧ (k = 11 → ∃ a, v = .pointer (some a)) ∧ (k = 12 → v = .pointer none) ∧ (k = 13 → v = .agg #[]))

theorem Kd.plain (k : Int) (v : Value) (h1 : 1 ≤ k) (h2 : k ≤ 8) : Kd k (.iface (tyk k) v) := .inr ⟨h1, by omega, v, rfl, fun h => by omega, fun h => by omega, fun h => by omega, fun h => by omega, fun h => by omega⟩
theorem Kd.pair (a b : Value) (ha : Sx a) (hb : Sx b) : Kd 9 (.iface 152 (.agg #[a, b])) := .inr ⟨by decide, by decide, _, rfl, fun _ => ⟨a, b, rfl, ha, hb⟩, fun h => by omega, fun h => by omega, fun h => by omega, fun h => by omega⟩
theorem Kd.fail (c : Int) (s : ByteArray) : Kd 10 (.iface 154 (.agg #[.int .i64 c, .string s])) := .inr ⟨by decide, by decide, _, rfl, fun h => by omega, fun _ => ⟨c, s, rfl⟩, fun h => by omega, fun h => by omega, fun h => by omega⟩
theorem Kd.ptr (a : Addr) : Kd 11 (.iface 155 (.pointer (some a))) := .inr ⟨by decide, by decide, _, rfl, fun h => by omega, fun h => by omega, fun _ => ⟨a, rfl⟩, fun h => by omega, fun h => by omega⟩
theorem Kd.nilp : Kd 12 (.iface 155 (.pointer none)) := .inr ⟨by decide, by decide, _, rfl, fun h => by omega, fun h => by omega, fun h => by omega, fun _ => rfl, fun h => by omega⟩
theorem Kd.unit : Kd 13 (.iface 157 (.agg #[])) := .inr ⟨by decide, by decide, _, rfl, fun h => by omega, fun h => by omega, fun h => by omega, fun h => by omega, fun _ => rfl⟩

theorem Kd.cases {k : Int} {u : Value} (h : Kd k u) :
    ((k < 1 ∨ 13 < k) ∧ u = .nilIface) ∨ (k = 1 ∧ ∃ v, u = .iface 140 v) ∨ (k = 2 ∧ ∃ v, u = .iface 141 v) ∨ (k = 3 ∧ ∃ v, u = .iface 142 v) ∨ (k = 4 ∧ ∃ v, u = .iface 101 v) ∨ (k = 5 ∧ ∃ v, u = .iface 143 v) ∨ (k = 6 ∧ ∃ v, u = .iface 144 v) ∨ (k = 7 ∧ ∃ v, u = .iface 147 v)
    ∨ (k = 8 ∧ ∃ v, u = .iface 149 v) ∨ (k = 9 ∧ ∃ a b, u = .iface 152 (.agg #[a, b]) ∧ Sx a ∧ Sx b) ∨ (k = 10 ∧ ∃ c s, u = .iface 154 (.agg #[.int .i64 c, .string s])) ∨ (k = 11 ∧ ∃ a, u = .iface 155 (.pointer (some a))) ∨ (k = 12 ∧ u = .iface 155 (.pointer none)) ∨ (k = 13 ∧ u = .iface 157 (.agg #[])) := by
  rcases h with h | ⟨h1, h2, v, hu, h9, h10, h11, h12, h13⟩
  · exact .inl h
  · right
    have : k = 1 ∨ k = 2 ∨ k = 3 ∨ k = 4 ∨ k = 5 ∨ k = 6 ∨ k = 7 ∨ k = 8 ∨ k = 9 ∨ k = 10 ∨ k = 11 ∨ k = 12 ∨ k = 13 := by omega
    rcases this with rfl | rfl | rfl | rfl | rfl | rfl | rfl | rfl | rfl | rfl | rfl | rfl | rfl
    · exact .inl ⟨rfl, v, hu⟩
    · exact .inr (.inl ⟨rfl, v, hu⟩)
    · exact .inr (.inr (.inl ⟨rfl, v, hu⟩))
    · exact .inr (.inr (.inr (.inl ⟨rfl, v, hu⟩)))
    · exact .inr (.inr (.inr (.inr (.inl ⟨rfl, v, hu⟩))))
    · exact .inr (.inr (.inr (.inr (.inr (.inl ⟨rfl, v, hu⟩)))))
    · exact .inr (.inr (.inr (.inr (.inr (.inr (.inl ⟨rfl, v, hu⟩))))))
    · exact .inr (.inr (.inr (.inr (.inr (.inr (.inr (.inl ⟨rfl, v, hu⟩)))))))
    · obtain ⟨a, b, rfl, ha, hb⟩ := h9 rfl
      exact .inr (.inr (.inr (.inr (.inr (.inr (.inr (.inr (.inl ⟨rfl, a, b, hu, ha, hb⟩))))))))
    · obtain ⟨c, s, rfl⟩ := h10 rfl
      exact .inr (.inr (.inr (.inr (.inr (.inr (.inr (.inr (.inr (.inl ⟨rfl, c, s, hu⟩)))))))))
    · obtain ⟨a, rfl⟩ := h11 rfl
      exact .inr (.inr (.inr (.inr (.inr (.inr (.inr (.inr (.inr (.inr (.inl ⟨rfl, a, hu⟩))))))))))
    · obtain rfl := h12 rfl
      exact .inr (.inr (.inr (.inr (.inr (.inr (.inr (.inr (.inr (.inr (.inr (.inl ⟨rfl, hu⟩)))))))))))
    · obtain rfl := h13 rfl
      exact .inr (.inr (.inr (.inr (.inr (.inr (.inr (.inr (.inr (.inr (.inr (.inr ⟨rfl, hu⟩)))))))))))
theorem ret_b {a b : Bool} (h : a = b) : Ending.returned (.bool a) = .returned (.bool b) := by rw [h]
theorem below1 (w : World) (o : Obj) : Below w.heap.size w (w.alloc o) := (Below.refl _ w).alloc (Nat.le_refl _) _
theorem below2 (w : World) (o p : Obj) : Below w.heap.size w ((w.alloc o).alloc p) := ((Below.refl _ w).alloc (Nat.le_refl _) _).alloc (by simp) _
end Go.Proofs.YtajagjcfmaggiaaGreatDoor
/- What stays of old blocks, and a block of one number; no condition but those that each theorem names. -/
namespace Go.Proofs.YtajagjcfmaggiaaGreatDoor
open Go.RowKit

theorem grown_trans {a w w' : World} {row : Option Nat} (h : a.grownBy w row) (k : w.grownBy w' row) : a.grownBy w' row :=
  ⟨k.os.trans h.os, k.tape.trans h.tape, k.output.trans h.output, Nat.le_trans h.size k.size, fun i hi hn => (k.block i (Nat.lt_of_lt_of_le hi h.size) hn).trans (h.block i hi hn)⟩
theorem grown_set (w : World) (b o : Nat) (v : Value) : w.grownBy (w.setCell ⟨b, o, none⟩ v) (some b) :=
  ⟨rfl, rfl, rfl, by simp [World.setCell], fun k _ hn => by simp only [World.setCell, Array.getElem?_modify]; rw [if_neg (fun e => hn (by rw [e]))]⟩
theorem grown_below {w w' : World} {row : Option Nat} (h : Below w.heap.size w w') : w.grownBy w' row :=
  ⟨h.os, h.tape, h.output, h.size, fun k hk _ => h.block k hk⟩
def Lf (w : World) (l : Nat) (k : Int) : Prop := w.heap[l]? = some (.cells #[.int .i64 k] 3 (0, 0))
theorem Lf.c {w : World} {l : Nat} {k : Int} (h : Lf w l k) : w.cell? ⟨l, 0, none⟩ = some (.int .i64 k) := by unfold Lf at h; simp [World.cell?, h]
theorem Lf.f {w : World} {l : Nat} {k : Int} (h : Lf w l k) : w.frozen? ⟨l, 0, none⟩ = false := by unfold Lf at h; simp [World.frozen?, h]
theorem Lf.lt {w : World} {l : Nat} {k : Int} (h : Lf w l k) : l < w.heap.size := by unfold Lf at h; exact (Array.getElem?_eq_some_iff.1 h).1
theorem Lf.below {w w' : World} {l : Nat} {k : Int} (h : Lf w l k) (hb : Below w.heap.size w w') : Lf w' l k := by
  have := h.lt
  unfold Lf at h ⊢; rw [hb.block l this]; exact h
theorem Lf.set {w : World} {l : Nat} {k : Int} (h : Lf w l k) (k' : Int) : Lf (w.setCell ⟨l, 0, none⟩ (.int .i64 k')) l k' := by
  unfold Lf at h ⊢
  simp [World.setCell, Array.getElem?_modify, h]
end Go.Proofs.YtajagjcfmaggiaaGreatDoor
/- Copies of data without parts, and of a state by the contracts of its two copies; no condition but those that each theorem names. -/
namespace Go.Proofs.YtajagjcfmaggiaaGreatDoor
open Go.RowKit

theorem copyAll_none (ad : Option Addr) (cap : Nat) (w : World) : Calls Tryz.prog 67 #[.slice ad 0 cap] w fun e w' => e = .returned (.slice none 0 0) ∧ Below w.heap.size w w' := by
  go_enter Tryz.func67, Tryz.ntmps67
  go_wp2
  go_ret
  exact ⟨rfl, Below.refl _ _⟩

/-- A block of cells. -/
def Bk (w : World) (N : Nat) (cs : Array Value) (T : TypeId) : Prop := w.heap[N]? = some (.cells cs T (0, 0))
theorem Bk.new (w : World) (cs : Array Value) (T : TypeId) : Bk (w.alloc (.cells cs T)) w.heap.size cs T := heap_alloc_new w _
theorem Bk.lt {w : World} {N : Nat} {cs : Array Value} {T : TypeId} (h : Bk w N cs T) : N < w.heap.size := (Array.getElem?_eq_some_iff.1 h).1
theorem Bk.step {w w' : World} {N : Nat} {cs : Array Value} {T : TypeId} (h : Bk w N cs T) (hb : Below w.heap.size w w') : Bk w' N cs T := (hb.block N h.lt).trans h
theorem Bk.c {w : World} {N : Nat} {cs : Array Value} {T : TypeId} (h : Bk w N cs T) (o : Nat) : w.cell? ⟨N, o, none⟩ = cs[o]? := by
  unfold Bk at h
  simp [World.cell?, h]
theorem Bk.f {w : World} {N : Nat} {cs : Array Value} {T : TypeId} (h : Bk w N cs T) (o : Nat) : w.frozen? ⟨N, o, none⟩ = false := by
  unfold Bk at h
  simp [World.frozen?, h]
theorem Bk.set {w : World} {N : Nat} {cs : Array Value} {T : TypeId} (h : Bk w N cs T) (o : Nat) (v : Value) : Bk (w.setCell ⟨N, o, none⟩ v) N (cs.setIfInBounds o v) T := by
  unfold Bk at h ⊢
  simp [World.setCell, Array.getElem?_modify, h]
theorem Bk.alloc {w : World} {N : Nat} {cs : Array Value} {T : TypeId} (h : Bk w N cs T) (o : Obj) : Bk (w.alloc o) N cs T := h.step (below1 w o)
theorem Bk.new2 (w : World) (o : Obj) (cs : Array Value) (T : TypeId) : Bk ((w.alloc o).alloc (.cells cs T)) (w.heap.size + 1) cs T := by have := Bk.new (w.alloc o) cs T; rwa [World.size_alloc] at this

/-- Five cells. -/
theorem Bk.c5 {w : World} {N : Nat} {v0 v1 v2 v3 v4 : Value} {T : TypeId} (h : Bk w N #[v0, v1, v2, v3, v4] T) : w.cell? ⟨N, 0, none⟩ = some v0 ∧ w.cell? ⟨N, 1, none⟩ = some v1 ∧ w.cell? ⟨N, 2, none⟩ = some v2 ∧ w.cell? ⟨N, 3, none⟩ = some v3 ∧ w.cell? ⟨N, 4, none⟩ = some v4 := ⟨h.c 0, h.c 1, h.c 2, h.c 3, h.c 4⟩
theorem Bk.c10 {w : World} {N : Nat} {v0 v1 v2 v3 v4 v5 v6 v7 v8 v9 : Value} {T : TypeId} (h : Bk w N #[v0, v1, v2, v3, v4, v5, v6, v7, v8, v9] T) : w.cell? ⟨N, 0, none⟩ = some v0 ∧ w.cell? ⟨N, 1, none⟩ = some v1 ∧ w.cell? ⟨N, 2, none⟩ = some v2 ∧ w.cell? ⟨N, 3, none⟩ = some v3 ∧ w.cell? ⟨N, 4, none⟩ = some v4 ∧ w.cell? ⟨N, 5, none⟩ = some v5 ∧ w.cell? ⟨N, 6, none⟩ = some v6 ∧ w.cell? ⟨N, 7, none⟩ = some v7 ∧ w.cell? ⟨N, 8, none⟩ = some v8 ∧ w.cell? ⟨N, 9, none⟩ = some v9 := ⟨h.c 0, h.c 1, h.c 2, h.c 3, h.c 4, h.c 5, h.c 6, h.c 7, h.c 8, h.c 9⟩

/-- Copy, by what becomes of its list. -/
theorem copy_by (k i u : Int) (s : ByteArray) (ad : Option Addr) (len cap : Nat) (w : World) (R : Option Addr → Nat → Nat → World → Prop) (hR : ∀ a n c w' w'', R a n c w' → w''.heap.size = w'.heap.size → (∀ g, w.heap.size + 2 ≤ g → w''.heap[g]? = w'.heap[g]?) → R a n c w'')
    (hA : ∀ wx, Below w.heap.size w wx → w.heap.size + 2 ≤ wx.heap.size → Calls Tryz.prog 67 #[.slice ad len cap] wx fun e w' => ∃ a n c, e = .returned (.slice a n c) ∧ R a n c w' ∧ Below wx.heap.size wx w') :
    Calls Tryz.prog 36 #[.agg #[.int .i64 k, .int .i64 i, .int .u64 u, .string s, .slice ad len cap]] w fun e w' => ∃ a n c, e = .returned (.agg #[.int .i64 k, .int .i64 i, .int .u64 u, .string s, .slice a n c]) ∧ Hid (R a n c w') ∧ Below w.heap.size w w' := by
  have HA := Lib.hid hA
  clear hA
  have D0 : Bk ((w.alloc (.cells #[.int .i64 k, .int .i64 i, .int .u64 u, .string s, .slice ad len cap] 25)).alloc (.cells #[.int .i64 0, .int .i64 0, .int .u64 0, .string ⟨#[]⟩, .slice none 0 0] 25)) w.heap.size #[.int .i64 k, .int .i64 i, .int .u64 u, .string s, .slice ad len cap] 25 := (Bk.new w _ _).alloc _
  have E0 := Bk.new2 w (.cells #[.int .i64 k, .int .i64 i, .int .u64 u, .string s, .slice ad len cap] 25) #[.int .i64 0, .int .i64 0, .int .u64 0, .string ⟨#[]⟩, .slice none 0 0] 25
  have B0 := below2 w (.cells #[.int .i64 k, .int .i64 i, .int .u64 u, .string s, .slice ad len cap] 25) (.cells #[.int .i64 0, .int .i64 0, .int .u64 0, .string ⟨#[]⟩, .slice none 0 0] 25)
  go_enter Tryz.func36, Tryz.ntmps36
  go_wp2_with fail
  refine (HA.out _ B0 (by simp)).mono ?_
  rintro e w1 ⟨a, n, c, rfl, r1, b1⟩
  have D1 := D0.step b1
  have E1 := E0.step b1
  have B1 := B0.trans (b1.mono B0.size)
  have hs1 := b1.size
  simp only [World.size_alloc] at hs1
  have R1 := Lib.hid r1
  clear D0 E0 r1 HA b1 B0
  obtain ⟨c0, c1, c2, c3, c4⟩ := D1.c5
  obtain ⟨z0, z1, z2, z3, z4⟩ := E1.c5
  have f1 := D1.f
  have f2 := E1.f
  go_wp2
  refine bodyPost_ret (v := .agg #[.int .i64 k, .int .i64 i, .int .u64 u, .string s, .slice a n c]) (by simp [results, Tryz.results36, go_sem, World.cell?_setCell_same, World.cell?_setCell_other, z0, z1, z2, z3, z4]) rfl ⟨a, n, c, rfl, ?_, ?_⟩
  · refine hR _ _ _ _ _ R1.out (by simp) fun g hg => ?_
    simp (disch := (simp; omega)) only [Below.heap_setCell]
  · repeat' refine Below.setCell ?_ (by simp) _
    exact B1

end Go.Proofs.YtajagjcfmaggiaaGreatDoor
/- What is told of an answer, an error and a panic; something called whose panic is caught; the conditions: what it comes to. -/
namespace Go.Proofs.YtajagjcfmaggiaaGreatDoor
open Go.RowKit

/-- The cells of a result. -/
abbrev rcs (er co pk pn : Int) (has : Bool) (k i u : Int) (s : ByteArray) (a : Option Addr) (n c : Nat) : Array Value :=
  #[.int .i64 er, .int .i64 co, .int .i64 pk, .int .i64 pn, .bool has, .int .i64 k, .int .i64 i, .int .u64 u, .string s, .slice a n c]
abbrev rErr (er co pk pn : Int) : Array Value := rcs er co pk pn false 0 0 0 ⟨#[]⟩ none 0 0

theorem as_yes {P : Program} {t x : TypeId} {d : TypeDesc} {v z : Value} {w : World} (hU : P.underlying t = some d) (hd : ∀ m, d ≠ .interface m) (hz : (zeroValue t).run P w = .ok z w) : (Instr.typeAssert (.iface t v) x t true).run P w = .ok (.tuple #[v, .bool true]) w := by
  have h := assert_to (t := t) (x := x) (v := v) hU hd hz
  simpa using h
theorem as_no {P : Program} {t x asserted : TypeId} {d : TypeDesc} {v z : Value} {w : World} (hU : P.underlying asserted = some d) (hd : ∀ m, d ≠ .interface m) (hz : (zeroValue asserted).run P w = .ok z w) (hne : t ≠ asserted) : (Instr.typeAssert (.iface t v) x asserted true).run P w = .ok (.tuple #[z, .bool false]) w := by
  have h := assert_to (t := t) (x := x) (v := v) hU hd hz
  simpa [hne] using h

set_option maxRecDepth 100000 in
set_option maxHeartbeats 1000000 in
theorem ptold_assert (x : Int) (w : World) :
    Calls Tryz.prog 102 #[.iface 182 (.int .i64 x)] w fun e w' => e = .returned (.agg #[.int .i64 2, .int .i64 x]) ∧ Below w.heap.size w w' := by
  have a0 : ∀ w : World, (Instr.typeAssert (.iface 182 (.int .i64 x)) 20 182 true).run Tryz.prog w = .ok (.tuple #[.int .i64 x, .bool true]) w := fun w => as_yes Tryz.underlying182 (fun m h => by cases h) (z := .int .i64 0) (by kernel_rfl)
  go_enter Tryz.func102, Tryz.ntmps102
  go_wp2
  exact bodyPost_ret (v := .agg #[.int .i64 2, .int .i64 x]) (by simp [results, Tryz.results102, go_sem]) rfl ⟨rfl, by first | exact below1 _ _ | exact below2 _ _ _⟩

set_option maxRecDepth 100000 in
set_option maxHeartbeats 1000000 in
theorem ptold_nil  (w : World) :
    Calls Tryz.prog 102 #[.iface 183 (.agg #[])] w fun e w' => e = .returned (.agg #[.int .i64 3, .int .i64 0]) ∧ Below w.heap.size w w' := by
  have a0 : ∀ w : World, (Instr.typeAssert (.iface 183 (.agg #[])) 20 182 true).run Tryz.prog w = .ok (.tuple #[.int .i64 0, .bool false]) w := fun w => as_no Tryz.underlying182 (fun m h => by cases h) (by kernel_rfl) (by decide)
  have a1 : ∀ w : World, (Instr.typeAssert (.iface 183 (.agg #[])) 20 183 true).run Tryz.prog w = .ok (.tuple #[.agg #[], .bool true]) w := fun w => as_yes Tryz.underlying183 (fun m h => by cases h) (z := .agg #[]) (by kernel_rfl)
  go_enter Tryz.func102, Tryz.ntmps102
  go_wp2
  exact bodyPost_ret (v := .agg #[.int .i64 3, .int .i64 0]) (by simp [results, Tryz.results102, go_sem]) rfl ⟨rfl, by first | exact below1 _ _ | exact below2 _ _ _⟩

end Go.Proofs.YtajagjcfmaggiaaGreatDoor
/- Something called, and its panic caught and told; the conditions: what it comes to. -/
namespace Go.Proofs.YtajagjcfmaggiaaGreatDoor
open Go.RowKit

/-- As it was: what lies below L, and from N on. -/
structure Fr (L N : Nat) (w w' : World) : Prop where
  b : Below L w w'
  up : ∀ g, N ≤ g → g < w.heap.size → w'.heap[g]? = w.heap[g]?
theorem Fr.refl (L N : Nat) (w : World) : Fr L N w w := ⟨Below.refl _ _, fun _ _ _ => rfl⟩
theorem Fr.of {L N : Nat} {w w' : World} (h : Below w.heap.size w w') (hL : L ≤ w.heap.size) : Fr L N w w' := ⟨h.mono hL, fun g _ hg => h.block g hg⟩
theorem Fr.trans {L N : Nat} {w w' w'' : World} (h : Fr L N w w') (k : Fr L N w' w'') : Fr L N w w'' := ⟨h.b.trans k.b, fun g h1 h2 => (k.up g h1 (Nat.lt_of_lt_of_le h2 h.b.size)).trans (h.up g h1 h2)⟩
theorem Fr.size {L N : Nat} {w w' : World} (h : Fr L N w w') : w.heap.size ≤ w'.heap.size := h.b.size
theorem Fr.setCell {L N : Nat} {w w' : World} (h : Fr L N w w') (A o : Nat) (hA : L ≤ A) (hA' : A < N ∨ w.heap.size ≤ A) (v : Value) : Fr L N w (w'.setCell ⟨A, o, none⟩ v) :=
  ⟨h.b.setCell hA v, fun g h1 h2 => (Below.heap_setCell _ _ _ g (by show g ≠ A; omega)).trans (h.up g h1 h2)⟩
theorem Bk.fr {w w' : World} {A : Nat} {cs : Array Value} {T : TypeId} {L N : Nat} (h : Bk w A cs T) (hf : Fr L N w w') (hA : A < L ∨ N ≤ A) : Bk w' A cs T := by
  rcases hA with hA | hA
  · exact (hf.b.block A hA).trans h
  · exact (hf.up A hA h.lt).trans h

theorem Fr.trans_own {L N : Nat} {w w' w'' : World} (h : Fr L N w w') (k4 : Below w.heap.size w' w'') (k3 : ∀ g, g < w'.heap.size → g ≠ w.heap.size → w''.heap[g]? = w'.heap[g]?) (hN : N ≤ w.heap.size) (hL : L ≤ N) : Fr L N w w'' :=
  ⟨h.b.trans (k4.mono (by omega)), fun g h1 h2 => (k3 g (Nat.lt_of_lt_of_le h2 h.b.size) (by omega)).trans (h.up g h1 h2)⟩

theorem set10 {w : World} {A : Nat} {y0 y1 y2 y3 y4 y5 y6 y7 y8 y9 : Value} {T : TypeId} (h : Bk w A #[y0, y1, y2, y3, y4, y5, y6, y7, y8, y9] T) (x0 x1 x2 x3 x4 x5 x6 x7 x8 x9 : Value) {W : World} (hW : W = (((((((((w.setCell ⟨A, 0, none⟩ x0).setCell ⟨A, 1, none⟩ x1).setCell ⟨A, 2, none⟩ x2).setCell ⟨A, 3, none⟩ x3).setCell ⟨A, 4, none⟩ x4).setCell ⟨A, 5, none⟩ x5).setCell ⟨A, 6, none⟩ x6).setCell ⟨A, 7, none⟩ x7).setCell ⟨A, 8, none⟩ x8).setCell ⟨A, 9, none⟩ x9) :
    Bk W A #[x0, x1, x2, x3, x4, x5, x6, x7, x8, x9] T ∧ W.heap.size = w.heap.size ∧ (∀ g, g ≠ A → W.heap[g]? = w.heap[g]?) ∧ Below A w W := by
  subst hW
  have h0 : Bk _ A #[x0, y1, y2, y3, y4, y5, y6, y7, y8, y9] T := h.set 0 x0
  have h1 : Bk _ A #[x0, x1, y2, y3, y4, y5, y6, y7, y8, y9] T := h0.set 1 x1
  have h2 : Bk _ A #[x0, x1, x2, y3, y4, y5, y6, y7, y8, y9] T := h1.set 2 x2
  have h3 : Bk _ A #[x0, x1, x2, x3, y4, y5, y6, y7, y8, y9] T := h2.set 3 x3
  have h4 : Bk _ A #[x0, x1, x2, x3, x4, y5, y6, y7, y8, y9] T := h3.set 4 x4
  have h5 : Bk _ A #[x0, x1, x2, x3, x4, x5, y6, y7, y8, y9] T := h4.set 5 x5
  have h6 : Bk _ A #[x0, x1, x2, x3, x4, x5, x6, y7, y8, y9] T := h5.set 6 x6
  have h7 : Bk _ A #[x0, x1, x2, x3, x4, x5, x6, x7, y8, y9] T := h6.set 7 x7
  have h8 : Bk _ A #[x0, x1, x2, x3, x4, x5, x6, x7, x8, y9] T := h7.set 8 x8
  have h9 : Bk _ A #[x0, x1, x2, x3, x4, x5, x6, x7, x8, x9] T := h8.set 9 x9
  refine ⟨h9, by simp, fun g hg => ?_, ?_⟩
  · simp (disch := (simp; omega)) only [Below.heap_setCell]
  · exact ((((((((((Below.refl A w).setCell (Nat.le_refl A) _).setCell (Nat.le_refl A) _).setCell (Nat.le_refl A) _).setCell (Nat.le_refl A) _).setCell (Nat.le_refl A) _).setCell (Nat.le_refl A) _).setCell (Nat.le_refl A) _).setCell (Nat.le_refl A) _).setCell (Nat.le_refl A) _).setCell (Nat.le_refl A) _

theorem ca_idle (p : Addr) (w : World) :
    CallsD Tryz.prog 101 #[.pointer (some p)] .returning w fun e u' w' => e = .returned (.tuple #[]) ∧ u' = .returning ∧ w' = w := by
  refine callsD_of_wpS Tryz.func101 rfl fun c₀ cs hu => ?_
  apply wpS_seq
  apply wpS_region
  simp [wpOpsS, go_sem, recoverD, hu, Tryz.ntmps101, Exit.thenS]
  apply wpS_seq
  apply wpS_region
  simp [wpOpsS, go_sem, Exit.thenS]
  refine wpS_cond (t := false) (by simp [Act.eval, Array.replicate]) ?_
  simp only [Bool.false_eq_true, if_false]
  refine wpS_of_wp (wp_skip ?_)
  cases c₀
  simp_all [bodyPostS, results, Tryz.results101]

set_option maxRecDepth 100000 in
set_option maxHeartbeats 1000000 in
theorem ca_catch (A : Nat) (T : TypeId) (z : Value) (pk pn : Int) (older : List PanicEntry) (w : World) (hA : Bk w A (rErr 0 0 0 0) 33)
    (hT : ∀ wx, Calls Tryz.prog 102 #[.iface T z] wx fun e w' => e = .returned (.agg #[.int .i64 pk, .int .i64 pn]) ∧ Below wx.heap.size wx w') :
    CallsD Tryz.prog 101 #[.pointer (some ⟨A, 0, none⟩)] (.panicking ({ v := .iface T z, recovered := false } :: older)) w fun e u' w' =>
      e = .returned (.tuple #[]) ∧ u' = .panicking ({ v := .iface T z, recovered := true } :: older) ∧ Bk w' A (rErr 110 0 pk pn) 33 ∧ w.heap.size ≤ w'.heap.size ∧ (∀ g, g < w.heap.size → g ≠ A → w'.heap[g]? = w.heap[g]?) ∧ Below A w w' := by
  have HT := Lib.hid hT
  clear hT
  refine callsD_of_wpS Tryz.func101 rfl fun c₀ cs hu => ?_
  apply wpS_seq
  apply wpS_region
  simp [wpOpsS, go_sem, recoverD, hu, Tryz.ntmps101, Exit.thenS]
  apply wpS_seq
  apply wpS_region
  simp [wpOpsS, go_sem, Exit.thenS]
  refine wpS_cond (t := true) (by simp [Act.eval, Array.replicate]) ?_
  simp only [if_true]
  refine wpS_of_wp ?_
  go_wp2_with fail
  refine (HT.out _).mono ?_
  rintro e w1 ⟨rfl, b1⟩
  have A1 := hA.step b1
  obtain ⟨c0, c1, c2, c3, c4, c5, c6, c7, c8, c9⟩ := A1.c10
  have f1 := A1.f
  go_wp2_with fail
  obtain ⟨W, hW⟩ : ∃ W, W = (((((((((w1.setCell ⟨A, 0, none⟩ (.int .i64 110)).setCell ⟨A, 1, none⟩ (.int .i64 0)).setCell ⟨A, 2, none⟩ (.int .i64 pk)).setCell ⟨A, 3, none⟩ (.int .i64 pn)).setCell ⟨A, 4, none⟩ (.bool false)).setCell ⟨A, 5, none⟩ (.int .i64 0)).setCell ⟨A, 6, none⟩ (.int .i64 0)).setCell ⟨A, 7, none⟩ (.int .u64 0)).setCell ⟨A, 8, none⟩ (.string ⟨#[]⟩)).setCell ⟨A, 9, none⟩ (.slice none 0 0) := ⟨_, rfl⟩
  obtain ⟨k1, k2, k3, k4⟩ := set10 A1 _ _ _ _ _ _ _ _ _ _ hW
  rw [← hW]
  have hlt := hA.lt
  have hsz := b1.size
  have KK : Hid (Bk W A (rErr 110 0 pk pn) 33 ∧ w.heap.size ≤ W.heap.size ∧ (∀ g, g < w.heap.size → ¬ g = A → W.heap[g]? = w.heap[g]?) ∧ Below A w W) := ⟨k1, by omega, fun g h1 h2 => (k3 g h2).trans (b1.block g h1), (b1.mono (by omega)).trans k4⟩
  clear k1 k2 k3 k4 hW c0 c1 c2 c3 c4 c5 c6 c7 c8 c9 f1 A1 b1 hsz hlt hA HT
  simp [bodyPostS, results, Tryz.results101]
  exact KK.out

end Go.Proofs.YtajagjcfmaggiaaGreatDoor
/- Something done of which the language itself may panic: what it comes to, or the cause that was named in the panic's stead; the conditions: what it comes to by itself. -/
namespace Go.Proofs.YtajagjcfmaggiaaGreatDoor
open Go.RowKit

/-- A panic with a value that nobody has recovered yet. -/
def Pn (T : TypeId) (z : Value) (e : Ending) : Prop := ∃ older : List PanicEntry, e = .panicked ({ v := .iface T z, recovered := false } :: older) ∧ older.dropWhile (!·.goexit) = []
theorem Pn.one (T : TypeId) (z : Value) : Pn T z (.panicked [{ v := .iface T z, recovered := false }]) := ⟨[], rfl, rfl⟩

theorem asa_idle (p : Addr) (w : World) :
    CallsD Tryz.prog 134 #[.pointer (some p)] .returning w fun e u' w' => e = .returned (.tuple #[]) ∧ u' = .returning ∧ w' = w := by
  refine callsD_of_wpS Tryz.func134 rfl fun c₀ cs hu => ?_
  apply wpS_seq
  apply wpS_region
  simp [wpOpsS, go_sem, recoverD, hu, Tryz.ntmps134, Exit.thenS]
  refine wpS_cond (t := false) (by simp [Act.eval, Array.replicate]) ?_
  simp only [Bool.false_eq_true, if_false]
  refine wpS_of_wp (wp_skip ?_)
  cases c₀
  simp_all [bodyPostS, results, Tryz.results134]

theorem asa_turn (A : Nat) (T : TypeId) (z : Value) (C : TypeId) (c : Value) (older : List PanicEntry) (w : World) (hc : w.cell? ⟨A, 0, none⟩ = some (.iface C c)) :
    CallsD Tryz.prog 134 #[.pointer (some ⟨A, 0, none⟩)] (.panicking ({ v := .iface T z, recovered := false } :: older)) w fun e u' w' =>
      e = .panicked [{ v := .iface C c, recovered := false }] ∧ u' = .panicking ({ v := .iface T z, recovered := true } :: older) ∧ w' = w := by
  refine callsD_of_wpS Tryz.func134 rfl fun c₀ cs hu => ?_
  apply wpS_seq
  apply wpS_region
  simp [wpOpsS, go_sem, recoverD, hu, Tryz.ntmps134, Exit.thenS]
  refine wpS_cond (t := true) (by simp [Act.eval, Array.replicate]) ?_
  simp only [if_true]
  apply wpS_region
  simp [wpOpsS, go_sem, hc, bodyPostS, results, Tryz.results134]

set_option maxRecDepth 100000 in
set_option maxHeartbeats 1000000 in
theorem asa_ret (F : Nat) (cap : Array Value) (C : TypeId) (c : Value) (w : World) (Q : Value → World → Prop)
    (hcf : ∀ (w : World), (callFunc F cap).run Tryz.prog w = .ok (.enter F cap) w)
    (hF : ∀ wx, Below w.heap.size w wx → wx.heap.size = w.heap.size + 1 → Calls Tryz.prog F cap wx fun e w' => ∃ v, e = .returned v ∧ Q v w' ∧ Below wx.heap.size wx w') :
    Calls Tryz.prog 121 #[.iface C c, .func (.func F) #[] cap] w fun e w' => ∃ v, e = .returned v ∧ Q v w' ∧ Below w.heap.size w w' := by
  have hmf : ∀ (fn : Fn) (first cap : Array Value) (w : World), (Instr.makeFunc fn first cap).run Tryz.prog w = .ok (.func fn first cap) w := fun _ _ _ _ => rfl
  have HF := Lib.hid hF
  clear hF
  have B0 := below1 w (.cells #[.iface C c] 20)
  go_enter_defers Tryz.func121, Tryz.ntmps121
  go_wp2_with fail
  refine (HF.out _ B0 (by simp)).mono ?_
  rintro e w1 ⟨v, rfl, q1, b1⟩
  have B1 := B0.trans (b1.mono B0.size)
  go_wp2_with fail
  refine leaves_cons (f := 134) (args := #[.pointer (some ⟨w.heap.size, 0, none⟩)]) (by simp) (by simp [go_sem]) ?_
  refine (asa_idle _ _).mono ?_
  rintro e u' w'' ⟨rfl, rfl, rfl⟩
  simp [Leaves, settle, results, Tryz.results121, go_sem]
  exact ⟨q1, B1⟩

set_option maxRecDepth 100000 in
set_option maxHeartbeats 1000000 in
theorem asa_pan (F : Nat) (cap : Array Value) (C : TypeId) (c : Value) (w : World) (Q : World → Prop)
    (hcf : ∀ (w : World), (callFunc F cap).run Tryz.prog w = .ok (.enter F cap) w)
    (hF : ∀ wx, Below w.heap.size w wx → wx.heap.size = w.heap.size + 1 → Calls Tryz.prog F cap wx fun e w' => (∃ T z, Pn T z e) ∧ Q w' ∧ Below wx.heap.size wx w') :
    Calls Tryz.prog 121 #[.iface C c, .func (.func F) #[] cap] w fun e w' => Pn C c e ∧ Q w' ∧ Below w.heap.size w w' := by
  have hmf : ∀ (fn : Fn) (first cap : Array Value) (w : World), (Instr.makeFunc fn first cap).run Tryz.prog w = .ok (.func fn first cap) w := fun _ _ _ _ => rfl
  have HF := Lib.hid hF
  clear hF
  have B0 := below1 w (.cells #[.iface C c] 20)
  have R0 := Bk.new w #[.iface C c] 20
  go_enter_defers Tryz.func121, Tryz.ntmps121
  go_wp2_with fail
  refine (HF.out _ B0 (by simp)).mono ?_
  rintro e w1 ⟨⟨T, z, older, rfl, ho⟩, q1, b1⟩
  have B1 := B0.trans (b1.mono B0.size)
  have c1 : w1.cell? ⟨w.heap.size, 0, none⟩ = some (.iface C c) := by have := (R0.step b1).c 0; simpa using this
  go_wp2_with fail
  refine leaves_cons (f := 134) (args := #[.pointer (some ⟨w.heap.size, 0, none⟩)]) (by simp) (by simp [go_sem]) ?_
  refine (asa_turn w.heap.size T z C c older w1 c1).mono ?_
  rintro e u' w'' ⟨rfl, rfl, rfl⟩
  simp only [Leaves, raised]
  exact ⟨⟨_, rfl, by simp [ho]⟩, q1, B1⟩

end Go.Proofs.YtajagjcfmaggiaaGreatDoor
/- An act that is tried: what it comes to, or what its panic is told as; the conditions: what the act comes to by itself. -/
namespace Go.Proofs.YtajagjcfmaggiaaGreatDoor
open Go.RowKit

/-- What is said of a result's body and of memory. -/
abbrev BodyP := Int → Int → Int → ByteArray → Option Addr → Nat → Nat → World → Prop

set_option maxRecDepth 100000 in
set_option maxHeartbeats 1000000 in
theorem caughtE_ret (F : Nat) (cap : Array Value) (w : World) (er co pk pn : Int) (has : Bool) (L N : Nat) (hL : L ≤ N) (hN : N ≤ w.heap.size) (P : BodyP) (hP : ∀ k i u s a n c w' w'', P k i u s a n c w' → w'.heap.size ≤ w''.heap.size → (∀ g, g < w'.heap.size → g ≠ w.heap.size → w''.heap[g]? = w'.heap[g]?) → P k i u s a n c w'')
    (hcf : ∀ (w : World), (callFunc F cap).run Tryz.prog w = .ok (.enter F cap) w)
    (hF : ∀ wx, Below w.heap.size w wx → wx.heap.size = w.heap.size + 1 → Calls Tryz.prog F cap wx fun e w' => ∃ k i u s a n c, e = .returned (.agg (rcs er co pk pn has k i u s a n c)) ∧ P k i u s a n c w' ∧ Fr L N wx w') :
    Calls Tryz.prog 87 #[.func (.func F) #[] cap] w fun e w' => ∃ k i u s a n c, e = .returned (.agg (rcs er co pk pn has k i u s a n c)) ∧ P k i u s a n c w' ∧ Fr L N w w' := by
  have hmf : ∀ (fn : Fn) (first cap : Array Value) (w : World), (Instr.makeFunc fn first cap).run Tryz.prog w = .ok (.func fn first cap) w := fun _ _ _ _ => rfl
  have HF := Lib.hid hF
  clear hF
  have B0 := below1 w (.cells #[.int .i64 0, .int .i64 0, .int .i64 0, .int .i64 0, .bool false, .int .i64 0, .int .i64 0, .int .u64 0, .string ⟨#[]⟩, .slice none 0 0] 33)
  have R0 := Bk.new w #[.int .i64 0, .int .i64 0, .int .i64 0, .int .i64 0, .bool false, .int .i64 0, .int .i64 0, .int .u64 0, .string ⟨#[]⟩, .slice none 0 0] 33
  go_enter_defers Tryz.func87, Tryz.ntmps87
  go_wp2_with fail
  refine (HF.out _ B0 (by simp)).mono ?_
  rintro e w1 ⟨k, i, u, s, a, n, c, rfl, p1, b1⟩
  have R1 := R0.fr b1 (.inr hN)
  have B1 : Fr L N w w1 := (Fr.of B0 (by omega)).trans b1
  obtain ⟨c0, c1, c2, c3, c4, c5, c6, c7, c8, c9⟩ := R1.c10
  have f1 := R1.f
  have PP := Lib.hid p1
  clear R0 b1 B0 p1
  go_wp2_with fail
  refine leaves_cons (f := 101) (args := #[.pointer (some ⟨w.heap.size, 0, none⟩)]) (by simp) (by simp [go_sem]) ?_
  refine (ca_idle _ _).mono ?_
  rintro e u' w'' ⟨rfl, rfl, rfl⟩
  simp [Leaves, settle, results, Tryz.results87, go_sem, World.cell?_setCell_same, World.cell?_setCell_other, c0, c1, c2, c3, c4, c5, c6, c7, c8, c9]
  refine ⟨k, i, u, s, a, n, c, ⟨rfl, rfl, rfl, rfl, rfl, rfl, rfl⟩, ?_, ?_⟩
  · refine hP _ _ _ _ _ _ _ _ _ PP.out (by simp) fun g _ hg => ?_
    simp (disch := (simp; omega)) only [Below.heap_setCell]
  · repeat' refine Fr.setCell ?_ _ _ (by omega) (.inr (Nat.le_refl _)) _
    exact B1

set_option maxRecDepth 100000 in
set_option maxHeartbeats 1000000 in
theorem caught_panE (F : Nat) (cap : Array Value) (w : World) (T : TypeId) (z : Value) (pk pn : Int) (L N : Nat) (hL : L ≤ N) (hN : N ≤ w.heap.size) (P : World → Prop) (hP : ∀ w' w'', P w' → w'.heap.size ≤ w''.heap.size → (∀ g, g < w'.heap.size → g ≠ w.heap.size → w''.heap[g]? = w'.heap[g]?) → P w'')
    (hT : ∀ wx, Calls Tryz.prog 102 #[.iface T z] wx fun e w' => e = .returned (.agg #[.int .i64 pk, .int .i64 pn]) ∧ Below wx.heap.size wx w')
    (hcf : ∀ (w : World), (callFunc F cap).run Tryz.prog w = .ok (.enter F cap) w)
    (hF : ∀ wx, Below w.heap.size w wx → wx.heap.size = w.heap.size + 1 → Calls Tryz.prog F cap wx fun e w' => Pn T z e ∧ P w' ∧ Fr L N wx w') :
    Calls Tryz.prog 87 #[.func (.func F) #[] cap] w fun e w' => e = .returned (.agg (rErr 110 0 pk pn)) ∧ P w' ∧ Fr L N w w' := by
  have hmf : ∀ (fn : Fn) (first cap : Array Value) (w : World), (Instr.makeFunc fn first cap).run Tryz.prog w = .ok (.func fn first cap) w := fun _ _ _ _ => rfl
  have HF := Lib.hid hF
  have HT := Lib.hid hT
  clear hF hT
  have B0 := below1 w (.cells (rErr 0 0 0 0) 33)
  have R0 := Bk.new w (rErr 0 0 0 0) 33
  go_enter_defers Tryz.func87, Tryz.ntmps87
  go_wp2_with fail
  refine (HF.out _ B0 (by simp)).mono ?_
  rintro e w1 ⟨⟨older, rfl, hold⟩, p1, b1⟩
  have R1 := R0.fr b1 (.inr hN)
  have B1 : Fr L N w w1 := (Fr.of B0 (by omega)).trans b1
  clear R0 b1 B0
  go_wp2_with fail
  refine leaves_cons (f := 101) (args := #[.pointer (some ⟨w.heap.size, 0, none⟩)]) (by simp) (by simp [go_sem]) ?_
  refine (ca_catch w.heap.size T z pk pn older w1 R1 HT.out).mono ?_
  rintro e u' w'' ⟨rfl, rfl, k1, k2, k3, k4⟩
  obtain ⟨c0, c1, c2, c3, c4, c5, c6, c7, c8, c9⟩ := k1.c10
  simp [Leaves, settle, hold, results, Tryz.results87, go_sem, c0, c1, c2, c3, c4, c5, c6, c7, c8, c9]
  exact ⟨hP _ _ p1 k2 k3, B1.trans_own k4 k3 hN hL⟩

/-- The cells of an act. -/
abbrev acs (op ak ai au : Int) (az : ByteArray) (aa : Option Addr) (an ac : Nat) (bk bi bu : Int) (bs : ByteArray) (ba : Option Addr) (bn bc : Nat) (num : Int) : Array Value :=
  #[.int .i64 op, .int .i64 ak, .int .i64 ai, .int .u64 au, .string az, .slice aa an ac, .int .i64 bk, .int .i64 bi, .int .u64 bu, .string bs, .slice ba bn bc, .int .i64 num]

theorem Bk.c12 {w : World} {N : Nat} {v0 v1 v2 v3 v4 v5 v6 v7 v8 v9 v10 v11 : Value} {T : TypeId} (h : Bk w N #[v0, v1, v2, v3, v4, v5, v6, v7, v8, v9, v10, v11] T) : w.cell? ⟨N, 0, none⟩ = some v0 ∧ w.cell? ⟨N, 1, none⟩ = some v1 ∧ w.cell? ⟨N, 2, none⟩ = some v2 ∧ w.cell? ⟨N, 3, none⟩ = some v3 ∧ w.cell? ⟨N, 4, none⟩ = some v4 ∧ w.cell? ⟨N, 5, none⟩ = some v5 ∧ w.cell? ⟨N, 6, none⟩ = some v6 ∧ w.cell? ⟨N, 7, none⟩ = some v7 ∧ w.cell? ⟨N, 8, none⟩ = some v8 ∧ w.cell? ⟨N, 9, none⟩ = some v9 ∧ w.cell? ⟨N, 10, none⟩ = some v10 ∧ w.cell? ⟨N, 11, none⟩ = some v11 :=
  ⟨h.c 0, h.c 1, h.c 2, h.c 3, h.c 4, h.c 5, h.c 6, h.c 7, h.c 8, h.c 9, h.c 10, h.c 11⟩

set_option maxRecDepth 100000 in
set_option maxHeartbeats 1000000 in
theorem try1_ret (op ak ai au : Int) (az : ByteArray) (aa : Option Addr) (an ac : Nat) (bk bi bu : Int) (bs : ByteArray) (ba : Option Addr) (bn bc : Nat) (num : Int) (A : Nat) (w : World) (er co pk pn : Int) (has : Bool) (P : BodyP) (hP : ∀ k i u s a n c w' w'', P k i u s a n c w' → w'.heap.size ≤ w''.heap.size → (∀ g, g < w'.heap.size → g ≠ w.heap.size → w''.heap[g]? = w'.heap[g]?) → P k i u s a n c w'')
    (hA : Bk w A (acs op ak ai au az aa an ac bk bi bu bs ba bn bc num) 93)
    (hD : ∀ wx, Below w.heap.size w wx → wx.heap.size = w.heap.size + 1 → Calls Tryz.prog 89 #[.agg (acs op ak ai au az aa an ac bk bi bu bs ba bn bc num)] wx fun e w' => ∃ k i u s a n c, e = .returned (.agg (rcs er co pk pn has k i u s a n c)) ∧ P k i u s a n c w' ∧ Below wx.heap.size wx w') :
    Calls Tryz.prog 88 #[.pointer (some ⟨A, 0, none⟩)] w fun e w' => ∃ k i u s a n c, e = .returned (.agg (rcs er co pk pn has k i u s a n c)) ∧ P k i u s a n c w' ∧ Below w.heap.size w w' := by
  have HD := Lib.hid hD
  have hP' := Lib.hid hP
  clear hD hP
  have B0 := below1 w (.cells (rErr 0 0 0 0) 33)
  have R0 := Bk.new w (rErr 0 0 0 0) 33
  have A0 := hA.alloc (.cells (rErr 0 0 0 0) 33)
  obtain ⟨c0, c1, c2, c3, c4, c5, c6, c7, c8, c9, c10, c11⟩ := A0.c12
  go_enter Tryz.func88, Tryz.ntmps88
  go_wp2_with fail
  refine (HD.out _ B0 (by simp)).mono ?_
  rintro e w1 ⟨k, i, u, s, a, n, c, rfl, p1, b1⟩
  have r2 := R0.step b1
  have B1 := B0.trans (b1.mono B0.size)
  have PP := Lib.hid p1
  clear p1 c0 c1 c2 c3 c4 c5 c6 c7 c8 c9 c10 c11 A0 R0 b1 B0
  obtain ⟨c0, c1, c2, c3, c4, c5, c6, c7, c8, c9⟩ := r2.c10
  have z2 := r2.f
  go_wp2_with fail
  obtain ⟨k1, k2, k3, k4⟩ := set10 r2 (.int .i64 er) (.int .i64 co) (.int .i64 pk) (.int .i64 pn) (.bool has) (.int .i64 k) (.int .i64 i) (.int .u64 u) (.string s) (.slice a n c) rfl
  have KP := Lib.hid (hP'.out _ _ _ _ _ _ _ w1 _ PP.out (Nat.le_of_eq k2.symm) fun g _ hg => k3 g hg)
  have KF := B1.trans k4
  obtain ⟨q0, q1, q2, q3, q4, q5, q6, q7, q8, q9⟩ := k1.c10
  refine bodyPost_ret (v := .agg (rcs er co pk pn has k i u s a n c)) ?_ rfl ⟨k, i, u, s, a, n, c, rfl, KP.out, KF⟩
  simp [results, Tryz.results88, go_sem, q0, q1, q2, q3, q4, q5, q6, q7, q8, q9]

set_option maxRecDepth 100000 in
set_option maxHeartbeats 1000000 in
theorem try1_pan (op ak ai au : Int) (az : ByteArray) (aa : Option Addr) (an ac : Nat) (bk bi bu : Int) (bs : ByteArray) (ba : Option Addr) (bn bc : Nat) (num : Int) (A : Nat) (w : World) (T : TypeId) (z : Value) (P : World → Prop)
    (hA : Bk w A (acs op ak ai au az aa an ac bk bi bu bs ba bn bc num) 93)
    (hD : ∀ wx, Below w.heap.size w wx → wx.heap.size = w.heap.size + 1 → Calls Tryz.prog 89 #[.agg (acs op ak ai au az aa an ac bk bi bu bs ba bn bc num)] wx fun e w' => Pn T z e ∧ P w' ∧ Below wx.heap.size wx w') :
    Calls Tryz.prog 88 #[.pointer (some ⟨A, 0, none⟩)] w fun e w' => Pn T z e ∧ P w' ∧ Below w.heap.size w w' := by
  have HD := Lib.hid hD
  clear hD
  have B0 := below1 w (.cells (rErr 0 0 0 0) 33)
  have A0 := hA.alloc (.cells (rErr 0 0 0 0) 33)
  obtain ⟨c0, c1, c2, c3, c4, c5, c6, c7, c8, c9, c10, c11⟩ := A0.c12
  go_enter Tryz.func88, Tryz.ntmps88
  go_wp2_with fail
  refine (HD.out _ B0 (by simp)).mono ?_
  rintro e w1 ⟨⟨older, rfl, ho⟩, p1, b1⟩
  have B1 := B0.trans (b1.mono B0.size)
  go_wp2_with fail
  exact ⟨rfl, ⟨older, rfl, ho⟩, p1, B1⟩
end Go.Proofs.YtajagjcfmaggiaaGreatDoor
/- An act that is tried, by what the act does: what comes, or the panic told; the conditions: what the act comes to by itself. -/
namespace Go.Proofs.YtajagjcfmaggiaaGreatDoor
open Go.RowKit

set_option maxRecDepth 100000 in
set_option maxHeartbeats 1000000 in
theorem try_ret (op ak ai au : Int) (az : ByteArray) (aa : Option Addr) (an ac : Nat) (bk bi bu : Int) (bs : ByteArray) (ba : Option Addr) (bn bc : Nat) (num : Int) (w : World) (er co pk pn : Int) (has : Bool) (P : BodyP) (hP : ∀ k i u s a n c w' w'', P k i u s a n c w' → w'.heap.size ≤ w''.heap.size → (∀ g, g < w'.heap.size → g ≠ w.heap.size + 1 → g ≠ w.heap.size + 2 → g ≠ w.heap.size + 3 → w''.heap[g]? = w'.heap[g]?) → P k i u s a n c w'')
    (hD : ∀ wx, Below w.heap.size w wx → wx.heap.size = w.heap.size + 4 → Calls Tryz.prog 89 #[.agg (acs op ak ai au az aa an ac bk bi bu bs ba bn bc num)] wx fun e w' => ∃ k i u s a n c, e = .returned (.agg (rcs er co pk pn has k i u s a n c)) ∧ P k i u s a n c w' ∧ Below wx.heap.size wx w') :
    Calls Tryz.prog 77 #[.agg (acs op ak ai au az aa an ac bk bi bu bs ba bn bc num)] w fun e w' => ∃ k i u s a n c, e = .returned (.agg (rcs er co pk pn has k i u s a n c)) ∧ P k i u s a n c w' ∧ Below w.heap.size w w' := by
  have hmf : ∀ (fn : Fn) (first cap : Array Value) (w : World), (Instr.makeFunc fn first cap).run Tryz.prog w = .ok (.func fn first cap) w := fun _ _ _ _ => rfl
  have HC : ∀ w2, Below w.heap.size w w2 → w2.heap.size = w.heap.size + 2 → Bk w2 w.heap.size (acs op ak ai au az aa an ac bk bi bu bs ba bn bc num) 93 → Calls Tryz.prog 87 #[.func (.func 88) #[] #[.pointer (some ⟨w.heap.size, 0, none⟩)]] w2 fun e w' => ∃ k i u s a n c, e = .returned (.agg (rcs er co pk pn has k i u s a n c)) ∧ P k i u s a n c w' ∧ Fr w2.heap.size w2.heap.size w2 w' := fun w2 hb2 hz2 hA2 => by
    refine caughtE_ret 88 _ w2 er co pk pn has w2.heap.size w2.heap.size (Nat.le_refl _) (Nat.le_refl _) P (fun k i u s a n c w' w'' h1 h2 h3 => hP _ _ _ _ _ _ _ _ _ h1 h2 fun g g1 _ g3 _ => h3 g g1 (by omega)) (fun _ => by kernel_rfl) fun wx hbx hzx => ?_
    refine (try1_ret op ak ai au az aa an ac bk bi bu bs ba bn bc num w.heap.size wx er co pk pn has P (fun k i u s a n c w' w'' h1 h2 h3 => hP _ _ _ _ _ _ _ _ _ h1 h2 fun g g1 _ _ g4 => h3 g g1 (by omega)) (hA2.step hbx) fun wy hby hzy => ?_).mono fun e w' ⟨k, i, u, s, a, n, c, he, hp, hb⟩ => ⟨k, i, u, s, a, n, c, he, hp, Fr.of hb (by omega)⟩
    exact hD wy ((hb2.trans (hbx.mono (by omega))).trans (hby.mono (by omega))) (by omega)
  have HC' := Lib.hid HC
  have hP' := Lib.hid hP
  clear hD hP HC
  have A0 : Bk ((w.alloc (.cells (acs op ak ai au az aa an ac bk bi bu bs ba bn bc num) 93)).alloc (.cells (rErr 0 0 0 0) 33)) w.heap.size (acs op ak ai au az aa an ac bk bi bu bs ba bn bc num) 93 := (Bk.new w _ _).alloc _
  have R0 := Bk.new2 w (.cells (acs op ak ai au az aa an ac bk bi bu bs ba bn bc num) 93) (rErr 0 0 0 0) 33
  have B0 := below2 w (.cells (acs op ak ai au az aa an ac bk bi bu bs ba bn bc num) 93) (.cells (rErr 0 0 0 0) 33)
  go_enter Tryz.func77, Tryz.ntmps77
  go_wp2_with fail
  refine (HC'.out _ B0 (by simp) A0).mono ?_
  rintro e w1 ⟨k, i, u, s, a, n, c, rfl, p1, b1⟩
  have r2 := R0.step b1.b
  have B1 := B0.trans (b1.b.mono B0.size)
  have PP := Lib.hid p1
  clear p1 A0 R0 b1 B0
  obtain ⟨c0, c1, c2, c3, c4, c5, c6, c7, c8, c9⟩ := r2.c10
  have z2 := r2.f
  go_wp2_with fail
  obtain ⟨k1, k2, k3, k4⟩ := set10 r2 (.int .i64 er) (.int .i64 co) (.int .i64 pk) (.int .i64 pn) (.bool has) (.int .i64 k) (.int .i64 i) (.int .u64 u) (.string s) (.slice a n c) rfl
  have KP := Lib.hid (hP'.out _ _ _ _ _ _ _ w1 _ PP.out (Nat.le_of_eq k2.symm) fun g _ hg _ _ => k3 g hg)
  have KF := B1.trans (k4.mono (by omega))
  obtain ⟨q0, q1, q2, q3, q4, q5, q6, q7, q8, q9⟩ := k1.c10
  refine bodyPost_ret (v := .agg (rcs er co pk pn has k i u s a n c)) ?_ rfl ⟨k, i, u, s, a, n, c, rfl, KP.out, KF⟩
  simp [results, Tryz.results77, go_sem, q0, q1, q2, q3, q4, q5, q6, q7, q8, q9]

set_option maxRecDepth 100000 in
set_option maxHeartbeats 1000000 in
theorem try_pan (op ak ai au : Int) (az : ByteArray) (aa : Option Addr) (an ac : Nat) (bk bi bu : Int) (bs : ByteArray) (ba : Option Addr) (bn bc : Nat) (num : Int) (w : World) (T : TypeId) (z : Value) (pk pn : Int)
    (hT : ∀ wx, Calls Tryz.prog 102 #[.iface T z] wx fun e w' => e = .returned (.agg #[.int .i64 pk, .int .i64 pn]) ∧ Below wx.heap.size wx w')
    (hD : ∀ wx, Below w.heap.size w wx → wx.heap.size = w.heap.size + 4 → Calls Tryz.prog 89 #[.agg (acs op ak ai au az aa an ac bk bi bu bs ba bn bc num)] wx fun e w' => Pn T z e ∧ Below wx.heap.size wx w') :
    Calls Tryz.prog 77 #[.agg (acs op ak ai au az aa an ac bk bi bu bs ba bn bc num)] w fun e w' => e = .returned (.agg (rErr 110 0 pk pn)) ∧ Below w.heap.size w w' := by
  have hmf : ∀ (fn : Fn) (first cap : Array Value) (w : World), (Instr.makeFunc fn first cap).run Tryz.prog w = .ok (.func fn first cap) w := fun _ _ _ _ => rfl
  have HC : ∀ w2, Below w.heap.size w w2 → w2.heap.size = w.heap.size + 2 → Bk w2 w.heap.size (acs op ak ai au az aa an ac bk bi bu bs ba bn bc num) 93 → Calls Tryz.prog 87 #[.func (.func 88) #[] #[.pointer (some ⟨w.heap.size, 0, none⟩)]] w2 fun e w' => e = .returned (.agg (rErr 110 0 pk pn)) ∧ Fr w2.heap.size w2.heap.size w2 w' := fun w2 hb2 hz2 hA2 => by
    refine (caught_panE 88 _ w2 T z pk pn w2.heap.size w2.heap.size (Nat.le_refl _) (Nat.le_refl _) (fun _ => True) (fun _ _ _ _ _ => trivial) hT (fun _ => by kernel_rfl) fun wx hbx hzx => ?_).mono fun e w' ⟨he, _, hf⟩ => ⟨he, hf⟩
    refine (try1_pan op ak ai au az aa an ac bk bi bu bs ba bn bc num w.heap.size wx T z (fun _ => True) (hA2.step hbx) fun wy hby hzy => ?_).mono fun e w' ⟨he, hp, hb⟩ => ⟨he, hp, Fr.of hb (by omega)⟩
    exact (hD wy ((hb2.trans (hbx.mono (by omega))).trans (hby.mono (by omega))) (by omega)).mono fun e w' ⟨h1, h2⟩ => ⟨h1, trivial, h2⟩
  have HC' := Lib.hid HC
  clear hD HC hT
  have A0 : Bk ((w.alloc (.cells (acs op ak ai au az aa an ac bk bi bu bs ba bn bc num) 93)).alloc (.cells (rErr 0 0 0 0) 33)) w.heap.size (acs op ak ai au az aa an ac bk bi bu bs ba bn bc num) 93 := (Bk.new w _ _).alloc _
  have R0 := Bk.new2 w (.cells (acs op ak ai au az aa an ac bk bi bu bs ba bn bc num) 93) (rErr 0 0 0 0) 33
  have B0 := below2 w (.cells (acs op ak ai au az aa an ac bk bi bu bs ba bn bc num) 93) (.cells (rErr 0 0 0 0) 33)
  go_enter Tryz.func77, Tryz.ntmps77
  go_wp2_with fail
  refine (HC'.out _ B0 (by simp) A0).mono ?_
  rintro e w1 ⟨rfl, b1⟩
  have r2 := R0.step b1.b
  have B1 := B0.trans (b1.b.mono B0.size)
  clear A0 R0 b1 B0
  obtain ⟨c0, c1, c2, c3, c4, c5, c6, c7, c8, c9⟩ := r2.c10
  have z2 := r2.f
  go_wp2_with fail
  obtain ⟨k1, k2, k3, k4⟩ := set10 r2 (.int .i64 110) (.int .i64 0) (.int .i64 pk) (.int .i64 pn) (.bool false) (.int .i64 0) (.int .i64 0) (.int .u64 0) (.string ⟨#[]⟩) (.slice none 0 0) rfl
  have KF := B1.trans (k4.mono (by omega))
  obtain ⟨q0, q1, q2, q3, q4, q5, q6, q7, q8, q9⟩ := k1.c10
  refine bodyPost_ret (v := .agg (rErr 110 0 pk pn)) ?_ rfl ⟨rfl, KF⟩
  simp [results, Tryz.results77, go_sem, q0, q1, q2, q3, q4, q5, q6, q7, q8, q9]
end Go.Proofs.YtajagjcfmaggiaaGreatDoor
/- The steps that panic: an assertion to a kind, to an interface; the conditions: what the assertions come to. -/
namespace Go.Proofs.YtajagjcfmaggiaaGreatDoor
open Go.RowKit

set_option maxRecDepth 100000 in
set_option maxHeartbeats 1000000 in
theorem pmust_no (k i b : Int) (s : ByteArray) (ad : Option Addr) (len cap : Nat) (kind : Int) (w : World)
    (hM : ∀ wx, Below w.heap.size w wx → Calls Tryz.prog 117 #[.agg #[.int .i64 k, .int .i64 i, .int .u64 b, .string s, .slice ad len cap], .int .i64 kind] wx fun e w' => e = .returned (.tuple #[.agg #[.int .i64 0, .int .i64 0, .int .u64 0, .string ⟨#[]⟩, .slice none 0 0], .agg #[.int .i64 k, .int .i64 (-1)], .int .i64 20]) ∧ Below wx.heap.size wx w') :
    Calls Tryz.prog 104 #[.agg #[.int .i64 k, .int .i64 i, .int .u64 b, .string s, .slice ad len cap], .int .i64 kind] w fun e w' => Pn 182 (.int .i64 k) e ∧ Below w.heap.size w w' := by
  have HM := Lib.hid hM
  clear hM
  have B0 := below2 w (.cells #[.int .i64 k, .int .i64 i, .int .u64 b, .string s, .slice ad len cap] 25) (.cells #[.int .i64 0, .int .i64 0, .int .u64 0, .string ⟨#[]⟩, .slice none 0 0] 25)
  go_enter Tryz.func104, Tryz.ntmps104
  go_wp2_with fail
  refine (HM.out _ B0).mono ?_
  rintro e w1 ⟨rfl, b1⟩
  have B1 := B0.trans (b1.mono B0.size)
  go_wp2_with fail
  exact ⟨rfl, Pn.one _ _, B1.trans ((below2 w1 _ _).mono B1.size)⟩

set_option maxRecDepth 100000 in
set_option maxHeartbeats 1000000 in
theorem pface_no (k i b : Int) (s : ByteArray) (ad : Option Addr) (len cap : Nat) (f : Int) (L : Int) (w : World)
    (hM : ∀ wx, Below w.heap.size w wx → Calls Tryz.prog 118 #[.agg #[.int .i64 k, .int .i64 i, .int .u64 b, .string s, .slice ad len cap], .int .i64 f] wx fun e w' => e = .returned (.tuple #[.agg #[.int .i64 k, .int .i64 L], .int .i64 20]) ∧ Below wx.heap.size wx w') :
    Calls Tryz.prog 105 #[.agg #[.int .i64 k, .int .i64 i, .int .u64 b, .string s, .slice ad len cap], .int .i64 f] w fun e w' => Pn 182 (.int .i64 L) e ∧ Below w.heap.size w w' := by
  have HM := Lib.hid hM
  clear hM
  have B0 := below1 w (.cells #[.int .i64 k, .int .i64 i, .int .u64 b, .string s, .slice ad len cap] 25)
  go_enter Tryz.func105, Tryz.ntmps105
  go_wp2_with fail
  refine (HM.out _ B0).mono ?_
  rintro e w1 ⟨rfl, b1⟩
  have B1 := B0.trans (b1.mono B0.size)
  go_wp2_with fail
  exact ⟨rfl, Pn.one _ _, B1.trans ((below1 w1 _).mono B1.size)⟩

set_option maxRecDepth 100000 in
set_option maxHeartbeats 1000000 in
theorem gave_any (k i b : Int) (s : ByteArray) (ad : Option Addr) (len cap : Nat) (w : World) :
    Calls Tryz.prog 103 #[.agg #[.int .i64 k, .int .i64 i, .int .u64 b, .string s, .slice ad len cap]] w fun e w' => e = .returned (.agg (rcs 0 0 0 0 true k i b s ad len cap)) ∧ Below w.heap.size w w' := by
  go_enter Tryz.func103, Tryz.ntmps103
  go_wp2
  exact bodyPost_ret (v := .agg (rcs 0 0 0 0 true k i b s ad len cap)) (by simp [results, Tryz.results103, go_sem]) rfl ⟨rfl, below2 w _ _⟩

/-- What is said is of memory from H on. -/
def St (H : Nat) (P : BodyP) : Prop := ∀ k i u s a n c w' w'', P k i u s a n c w' → w'.heap.size ≤ w''.heap.size → (∀ g, H ≤ g → g < w'.heap.size → w''.heap[g]? = w'.heap[g]?) → P k i u s a n c w''
theorem St.below {H : Nat} {P : BodyP} (h : St H P) {k i u : Int} {s : ByteArray} {a : Option Addr} {n c : Nat} {w w' : World} (p : P k i u s a n c w) (hb : Below w.heap.size w w') : P k i u s a n c w' := h _ _ _ _ _ _ _ _ _ p hb.size fun g _ hg => hb.block g hg

theorem set5 {w : World} {A : Nat} {y0 y1 y2 y3 y4 : Value} {T : TypeId} (h : Bk w A #[y0, y1, y2, y3, y4] T) (x0 x1 x2 x3 x4 : Value) {W : World} (hW : W = ((((w.setCell ⟨A, 0, none⟩ x0).setCell ⟨A, 1, none⟩ x1).setCell ⟨A, 2, none⟩ x2).setCell ⟨A, 3, none⟩ x3).setCell ⟨A, 4, none⟩ x4) :
    Bk W A #[x0, x1, x2, x3, x4] T ∧ W.heap.size = w.heap.size ∧ (∀ g, g ≠ A → W.heap[g]? = w.heap[g]?) ∧ Below A w W := by
  subst hW
  have h0 : Bk _ A #[x0, y1, y2, y3, y4] T := h.set 0 x0
  have h1 : Bk _ A #[x0, x1, y2, y3, y4] T := h0.set 1 x1
  have h2 : Bk _ A #[x0, x1, x2, y3, y4] T := h1.set 2 x2
  have h3 : Bk _ A #[x0, x1, x2, x3, y4] T := h2.set 3 x3
  have h4 : Bk _ A #[x0, x1, x2, x3, x4] T := h3.set 4 x4
  refine ⟨h4, by simp, fun g hg => ?_, ?_⟩
  · simp (disch := (simp; omega)) only [Below.heap_setCell]
  · exact (((((Below.refl A w).setCell (Nat.le_refl A) _).setCell (Nat.le_refl A) _).setCell (Nat.le_refl A) _).setCell (Nat.le_refl A) _).setCell (Nat.le_refl A) _

set_option maxRecDepth 100000 in
set_option maxHeartbeats 1000000 in
theorem pmust_yes (k i b : Int) (s : ByteArray) (ad : Option Addr) (len cap : Nat) (kind : Int) (w : World) (H : Nat) (hH : w.heap.size + 2 ≤ H) (P : BodyP) (hP : St H P)
    (hM : ∀ wx, Below w.heap.size w wx → wx.heap.size = w.heap.size + 2 → Calls Tryz.prog 117 #[.agg #[.int .i64 k, .int .i64 i, .int .u64 b, .string s, .slice ad len cap], .int .i64 kind] wx fun e w' => ∃ k i u s a n c, e = .returned (.tuple #[.agg #[.int .i64 k, .int .i64 i, .int .u64 u, .string s, .slice a n c], .agg #[.int .i64 0, .int .i64 0], .int .i64 0]) ∧ P k i u s a n c w' ∧ Below wx.heap.size wx w') :
    Calls Tryz.prog 104 #[.agg #[.int .i64 k, .int .i64 i, .int .u64 b, .string s, .slice ad len cap], .int .i64 kind] w fun e w' => ∃ k i u s a n c, e = .returned (.agg #[.int .i64 k, .int .i64 i, .int .u64 u, .string s, .slice a n c]) ∧ P k i u s a n c w' ∧ Below w.heap.size w w' := by
  have HM := Lib.hid hM
  have hP' := Lib.hid hP
  clear hM hP
  have B0 := below2 w (.cells #[.int .i64 k, .int .i64 i, .int .u64 b, .string s, .slice ad len cap] 25) (.cells #[.int .i64 0, .int .i64 0, .int .u64 0, .string ⟨#[]⟩, .slice none 0 0] 25)
  have R0 := Bk.new2 w (.cells #[.int .i64 k, .int .i64 i, .int .u64 b, .string s, .slice ad len cap] 25) #[.int .i64 0, .int .i64 0, .int .u64 0, .string ⟨#[]⟩, .slice none 0 0] 25
  go_enter Tryz.func104, Tryz.ntmps104
  go_wp2_with fail
  refine (HM.out _ B0 (by simp)).mono ?_
  rintro e w1 ⟨k', i', u', s', a', n', c', rfl, p1, b1⟩
  have B1 := B0.trans (b1.mono B0.size)
  have R1 := R0.step b1
  have PP := Lib.hid p1
  have hlt := R1.lt
  clear p1 R0 b1 B0
  have R2 := (R1.alloc (.cells #[.int .i64 k', .int .i64 i', .int .u64 u', .string s', .slice a' n' c'] 25)).alloc (.cells #[.int .i64 0, .int .i64 0] 188)
  obtain ⟨c0, c1, c2, c3, c4⟩ := R2.c5
  have z2 := R2.f
  go_wp2_with fail
  obtain ⟨k1, k2, k3, k4⟩ := set5 R2 (.int .i64 k') (.int .i64 i') (.int .u64 u') (.string s') (.slice a' n' c') rfl
  have B2 := B1.trans ((below2 w1 (.cells #[.int .i64 k', .int .i64 i', .int .u64 u', .string s', .slice a' n' c'] 25) (.cells #[.int .i64 0, .int .i64 0] 188)).mono B1.size)
  have P2 := hP'.out.below PP.out (below2 w1 (.cells #[.int .i64 k', .int .i64 i', .int .u64 u', .string s', .slice a' n' c'] 25) (.cells #[.int .i64 0, .int .i64 0] 188))
  have KP := Lib.hid (hP'.out _ _ _ _ _ _ _ _ _ P2 (Nat.le_of_eq k2.symm) fun g hg _ => k3 g (by omega))
  have KF := B2.trans (k4.mono (by omega))
  obtain ⟨q0, q1, q2, q3, q4⟩ := k1.c5
  refine bodyPost_ret (v := .agg #[.int .i64 k', .int .i64 i', .int .u64 u', .string s', .slice a' n' c']) ?_ rfl ⟨k', i', u', s', a', n', c', rfl, KP.out, KF⟩
  simp [results, Tryz.results104, go_sem, q0, q1, q2, q3, q4]

set_option maxRecDepth 100000 in
set_option maxHeartbeats 1000000 in
theorem pface_yes (k i b : Int) (s : ByteArray) (ad : Option Addr) (len cap : Nat) (f : Int) (w : World)
    (hM : ∀ wx, Below w.heap.size w wx → Calls Tryz.prog 118 #[.agg #[.int .i64 k, .int .i64 i, .int .u64 b, .string s, .slice ad len cap], .int .i64 f] wx fun e w' => e = .returned (.tuple #[.agg #[.int .i64 0, .int .i64 0], .int .i64 0]) ∧ Below wx.heap.size wx w') :
    Calls Tryz.prog 105 #[.agg #[.int .i64 k, .int .i64 i, .int .u64 b, .string s, .slice ad len cap], .int .i64 f] w fun e w' => e = .returned (.tuple #[]) ∧ Below w.heap.size w w' := by
  have HM := Lib.hid hM
  clear hM
  have B0 := below1 w (.cells #[.int .i64 k, .int .i64 i, .int .u64 b, .string s, .slice ad len cap] 25)
  go_enter Tryz.func105, Tryz.ntmps105
  go_wp2_with fail
  refine (HM.out _ B0).mono ?_
  rintro e w1 ⟨rfl, b1⟩
  have B1 := B0.trans (b1.mono B0.size)
  go_wp2_with fail
  simp [bodyPost, results, Tryz.results105]
  exact B1.trans ((below1 w1 _).mono B1.size)
end Go.Proofs.YtajagjcfmaggiaaGreatDoor
