/- Heaps of pairs, in plain words: what goes first; no condition but those that each theorem names. -/
import Derived.Test.YtdgjhclncjoonaaHa
namespace Go.Proofs.Ytdgjhclncjoonaa
open Go.RowKit

/-- Which priority goes first: the greater one, or the lesser one. -/
def gf (up : Bool) (x y : Int) : Bool := if up then decide (y < x) else decide (x < y)
/-- What is ahead of what: by priority, then by coming. -/
def ahd (up : Bool) (x y : Int × Int) : Bool := if x.1 ≠ y.1 then gf up x.1 y.1 else decide (x.2 < y.2)
/-- y is not ahead of x. -/
def nb (up : Bool) (x y : Int × Int) : Prop := ahd up y x = false
theorem nb.refl (up : Bool) (x : Int × Int) : nb up x x := by simp [nb, ahd]
theorem nb_of_ahd {up : Bool} {x y : Int × Int} (h : ahd up x y = true) : nb up x y := by
  obtain ⟨x1, x2⟩ := x
  obtain ⟨y1, y2⟩ := y
  unfold nb ahd gf at *
  cases up <;> simp only [ne_eq, ite_not] at * <;> repeat' split at h
  all_goals repeat' split
  all_goals (try simp at *)
  all_goals omega
theorem nb.trans {up : Bool} {x y z : Int × Int} (h : nb up x y) (k : nb up y z) : nb up x z := by
  obtain ⟨x1, x2⟩ := x
  obtain ⟨y1, y2⟩ := y
  obtain ⟨z1, z2⟩ := z
  unfold nb ahd gf at *
  cases up <;> simp only [ne_eq, ite_not] at * <;> repeat' split at h
  all_goals repeat' split at k
  all_goals repeat' split
  all_goals (try simp at *)
  all_goals omega
theorem nb.anti {up : Bool} {x y : Int × Int} (h : nb up x y) (k : nb up y x) : x = y := by
  obtain ⟨x1, x2⟩ := x
  obtain ⟨y1, y2⟩ := y
  unfold nb ahd gf at *
  cases up <;> simp only [ne_eq, ite_not] at * <;> repeat' split at h
  all_goals repeat' split at k
  all_goals (try simp at *)
  all_goals omega
/-- c hangs on p. -/
def Ch (p c : Nat) : Prop := c = 2 * p + 1 ∨ c = 2 * p + 2
/-- From k on none is ahead of the one that it hangs on. -/
def Hp (up : Bool) (n : Nat) (f : Nat → Int × Int) (k : Nat) : Prop := ∀ p c, k ≤ p → Ch p c → c < n → nb up (f p) (f c)
/-- So it is but at i. -/
def Sk (up : Bool) (n : Nat) (f : Nat → Int × Int) (k i : Nat) : Prop := k ≤ i ∧ (∀ p c, k ≤ p → p ≠ i → Ch p c → c < n → nb up (f p) (f c)) ∧ ∀ p c, k ≤ p → Ch p i → Ch i c → c < n → nb up (f p) (f c)
def swp (f : Nat → Int × Int) (i j : Nat) : Nat → Int × Int := fun q => if q = i then f j else if q = j then f i else f q
/-- The foremost under i. -/
def Fm (up : Bool) (n : Nat) (f : Nat → Int × Int) (i c : Nat) : Prop := Ch i c ∧ c < n ∧ ∀ d, Ch i d → d < n → nb up (f c) (f d)
theorem Hp.start {up : Bool} {n : Nat} {f : Nat → Int × Int} {k : Nat} (h : Hp up n f (k + 1)) : Sk up n f k k :=
  ⟨Nat.le_refl _, fun p c hp hne hc hn => h p c (by omega) hc hn, fun p c hp hc _ _ => by unfold Ch at hc; omega⟩
theorem Sk.step {up : Bool} {n : Nat} {f : Nat → Int × Int} {k i c : Nat} (h : Sk up n f k i) (hc : Fm up n f i c) (ha : ahd up (f c) (f i) = true) : Sk up n (swp f i c) k c := by
  obtain ⟨h0, h1, h2⟩ := h
  obtain ⟨c1, c2, c3⟩ := hc
  have hic : i < c := by unfold Ch at c1; omega
  refine ⟨by omega, fun p d hp hne hd hn => ?_, fun p d hp hpc hd hn => ?_⟩
  · by_cases e : p = i
    · subst e
      have e1 : swp f p c p = f c := by simp [swp]
      rw [e1]
      by_cases e2 : d = c
      · subst e2
        have : swp f p d d = f p := by unfold swp; rw [if_neg (by omega), if_pos rfl]
        rw [this]
        exact nb_of_ahd ha
      · have : swp f p c d = f d := by unfold swp; rw [if_neg (by unfold Ch at hd; omega), if_neg e2]
        rw [this]
        exact c3 d hd hn
    · have e1 : swp f i c p = f p := by unfold swp; rw [if_neg e, if_neg hne]
      rw [e1]
      by_cases e2 : d = i
      · subst e2
        have : swp f d c d = f c := by simp [swp]
        rw [this]
        exact h2 p c hp hd c1 c2
      · have : swp f i c d = f d := by unfold swp; rw [if_neg e2, if_neg (by unfold Ch at hd c1; omega)]
        rw [this]
        exact h1 p d hp e hd hn
  · have e : p = i := by unfold Ch at hpc c1; omega
    subst e
    have e1 : swp f p c p = f c := by simp [swp]
    have e2 : swp f p c d = f d := by unfold swp; unfold Ch at hd; rw [if_neg (by omega), if_neg (by omega)]
    rw [e1, e2]
    exact h1 c d (by omega) (by omega) hd hn
theorem Sk.done {up : Bool} {n : Nat} {f : Nat → Int × Int} {k i c : Nat} (h : Sk up n f k i) (hc : Fm up n f i c) (ha : ahd up (f c) (f i) = false) : Hp up n f k := fun p d hp hd hn => by
  by_cases e : p = i
  · subst e
    exact nb.trans (show nb up (f p) (f c) from ha) (hc.2.2 d hd hn)
  · exact h.2.1 p d hp e hd hn
theorem Sk.none {up : Bool} {n : Nat} {f : Nat → Int × Int} {k i : Nat} (h : Sk up n f k i) (hn : n ≤ 2 * i + 1) : Hp up n f k := fun p d hp hd hd2 => by
  by_cases e : p = i
  · subst e
    unfold Ch at hd
    omega
  · exact h.2.1 p d hp e hd hd2
theorem Hp.nobody {up : Bool} {n : Nat} {f : Nat → Int × Int} {k : Nat} (h : n / 2 ≤ k) : Hp up n f k := fun p c hp hc hn => by unfold Ch at hc; omega
theorem Hp.first {up : Bool} {n : Nat} {f : Nat → Int × Int} (h : Hp up n f 0) : ∀ q, q < n → nb up (f 0) (f q) := by
  intro q
  induction q using Nat.strongRecOn with
  | ind q ih =>
    intro hq
    by_cases h0 : q = 0
    · subst h0; exact nb.refl _ _
    · exact nb.trans (ih ((q - 1) / 2) (by omega) (by omega)) (h _ _ (Nat.zero_le _) (by unfold Ch; omega) hq)
/-- The same ones. -/
def Im (n : Nat) (f g : Nat → Int × Int) : Prop := ∀ v, (∃ q, q < n ∧ f q = v) ↔ ∃ q, q < n ∧ g q = v
theorem Im.refl (n : Nat) (f : Nat → Int × Int) : Im n f f := fun _ => Iff.rfl
theorem Im.swp {n : Nat} {f g : Nat → Int × Int} (h : Im n f g) {i j : Nat} (hi : i < n) (hj : j < n) : Im n (swp f i j) g := fun v => by
  rw [← h v]
  constructor
  · rintro ⟨q, hq, e⟩
    unfold Ytdgjhclncjoonaa.swp at e
    split at e
    · exact ⟨j, hj, e⟩
    · split at e
      · exact ⟨i, hi, e⟩
      · exact ⟨q, hq, e⟩
  · rintro ⟨q, hq, e⟩
    by_cases e1 : q = i
    · subst e1
      refine ⟨j, hj, ?_⟩
      unfold Ytdgjhclncjoonaa.swp
      by_cases e2 : j = q
      · rw [if_pos e2, e2]; exact e
      · rw [if_neg e2, if_pos rfl]; exact e
    · by_cases e2 : q = j
      · subst e2
        exact ⟨i, hi, by unfold Ytdgjhclncjoonaa.swp; rw [if_pos rfl]; exact e⟩
      · exact ⟨q, hq, by unfold Ytdgjhclncjoonaa.swp; rw [if_neg e1, if_neg e2]; exact e⟩
/-- Who goes first of n. -/
def Best (up : Bool) (pr : Nat → Int) (n k : Nat) : Prop := k < n ∧ ∀ c, c < n → nb up (pr k, (k : Int)) (pr c, (c : Int))
theorem Best.one {up : Bool} {pr : Nat → Int} {n k l : Nat} (h : Best up pr n k) (h' : Best up pr n l) : k = l := by
  have := nb.anti (h.2 l h'.1) (h'.2 k h.1)
  simp at this
  omega
theorem Hp.best {up : Bool} {n : Nat} {f : Nat → Int × Int} {pr : Nat → Int} (h : Hp up n f 0) (hn : 0 < n) (hi : Im n f (fun c => (pr c, (c : Int)))) : ∃ k : Nat, f 0 = (pr k, (k : Int)) ∧ Best up pr n k := by
  obtain ⟨k, hk, e⟩ := (hi (f 0)).1 ⟨0, hn, rfl⟩
  refine ⟨k, e.symm, hk, fun c hc => ?_⟩
  obtain ⟨q, hq, e2⟩ := (hi (pr c, (c : Int))).2 ⟨c, hc, rfl⟩
  have := h.first q hq
  rw [e2, ← e] at this
  exact this
end Go.Proofs.Ytdgjhclncjoonaa
