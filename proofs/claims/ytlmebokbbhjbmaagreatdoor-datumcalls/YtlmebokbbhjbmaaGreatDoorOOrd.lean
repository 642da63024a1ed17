/- How the model's floats, texts and whole numbers stand to each other: of two that are no NaN one is less or they are equal; less goes on; a NaN is not less, nor anything than it. No program. -/
import Derived.Laws.Bits64b
import Derived.Laws.Cover2
import Derived.Laws.Strings
namespace Go.Proofs.YtlmebokbbhjbmaaGreatDoor.Dt
open Go.RowKit

theorem bl_irr : ∀ x : List UInt8, Op.bytesLess x x = false
  | [] => rfl
  | a :: x => by simp [Op.bytesLess, bl_irr x]
theorem bl_tri : ∀ x y : List UInt8, Op.bytesLess x y = false → Op.bytesLess y x = false → x = y
  | [], [] => fun _ _ => rfl
  | [], b :: y => fun h _ => by simp [Op.bytesLess] at h
  | a :: x, [] => fun _ h => by simp [Op.bytesLess] at h
  | a :: x, b :: y => fun h k => by
    simp only [Op.bytesLess, Bool.or_eq_false_iff, Bool.and_eq_false_iff, decide_eq_false_iff_not, beq_eq_false_iff_ne] at h k
    have hab : a = b := by
      have h1 := h.1; have k1 := k.1
      simp only [UInt8.lt_iff_toNat_lt] at h1 k1
      exact UInt8.toNat_inj.1 (by omega)
    subst hab
    have e := bl_tri x y (by rcases h.2 with h | h; exact absurd rfl h; exact h) (by rcases k.2 with h | h; exact absurd rfl h; exact h)
    rw [e]
theorem bl_trans : ∀ x y z : List UInt8, Op.bytesLess x y = true → Op.bytesLess y z = true → Op.bytesLess x z = true
  | x, y, [] => fun _ h => by cases y <;> simp [Op.bytesLess] at h
  | x, [], _ :: _ => fun h _ => by cases x <;> simp [Op.bytesLess] at h
  | [], _ :: _, _ :: _ => fun _ _ => rfl
  | a :: x, b :: y, c :: z => fun h k => by
    simp only [Op.bytesLess, Bool.or_eq_true, Bool.and_eq_true, decide_eq_true_eq, beq_iff_eq] at h k ⊢
    rcases h with h | ⟨rfl, h⟩
    · rcases k with k | ⟨rfl, k⟩
      · left; exact UInt8.lt_trans h k
      · left; exact h
    · rcases k with k | ⟨rfl, k⟩
      · left; exact k
      · right; exact ⟨rfl, bl_trans x y z h k⟩
theorem bl_asym (x y : List UInt8) (h : Op.bytesLess x y = true) : Op.bytesLess y x = false := by
  cases e : Op.bytesLess y x with
  | false => rfl
  | true => have := bl_trans x y x h e; rw [bl_irr] at this; cases this
theorem ba_list (s z : ByteArray) (h : s.toList = z.toList) : s = z := by
  have h' : s.data.toList = z.data.toList := by rw [← ByteArray.toList_eq, ← ByteArray.toList_eq]; exact h
  exact ByteArray.ext (Array.toList_inj.1 h')

theorem ba_beq (s z : ByteArray) : (s == z) = true ↔ s = z := by
  have : (s == z) = (s.data == z.data) := by cases s; cases z; rfl
  rw [this, beq_iff_eq]
  exact ⟨ByteArray.ext, fun h => h ▸ rfl⟩

/-- Two data as numbers of one place. -/
theorem signed_up (s : Bool) (m u k : Nat) : Ieee.signed s m (u + k) = Ieee.signed s m u * 2 ^ k := by
  unfold Ieee.signed
  cases s
  · simp [Nat.shiftLeft_eq, Nat.pow_add, ← Nat.mul_assoc]
  · simp [Nat.shiftLeft_eq, Nat.pow_add, ← Nat.mul_assoc, Int.neg_mul]
theorem ord_num (s t : Bool) (m n : Nat) (i j b : Int) (h1 : b ≤ i) (h2 : b ≤ j) :
    (Ieee.Datum.number s m i).order (.number t n j) = some (compare (Ieee.signed s m (i - b).toNat) (Ieee.signed t n (j - b).toNat)) := by
  have e1 : (i - b).toNat = (i - min i j).toNat + (min i j - b).toNat := by omega
  have e2 : (j - b).toNat = (j - min i j).toNat + (min i j - b).toNat := by omega
  show some (compare (Ieee.signed s m (i - min i j).toNat) (Ieee.signed t n (j - min i j).toNat)) = _
  rw [e1, e2, signed_up, signed_up]
  generalize Ieee.signed s m (i - min i j).toNat = X
  generalize Ieee.signed t n (j - min i j).toNat = Y
  have hp : (0 : Int) < 2 ^ (min i j - b).toNat := Int.pow_pos (by decide)
  generalize (2 : Int) ^ (min i j - b).toNat = Q at hp
  congr 1
  simp only [compare, compareOfLessAndEq]
  by_cases h : X < Y
  · rw [if_pos h, if_pos (Int.mul_lt_mul_of_pos_right h hp)]
  · rw [if_neg h, if_neg (fun hh => h (Int.lt_of_mul_lt_mul_right hh (Int.le_of_lt hp)))]
    by_cases h' : X = Y
    · rw [if_pos h', if_pos (by rw [h'])]
    · rw [if_neg h', if_neg (fun hh => h' (Int.eq_of_mul_eq_mul_right (by omega) hh))]
theorem cmp_lt (X Y : Int) : compare X Y = .lt ↔ X < Y := by
  simp only [compare, compareOfLessAndEq]; by_cases h : X < Y <;> simp [h]; by_cases h' : X = Y <;> simp [h']
theorem cmp_eq (X Y : Int) : compare X Y = .eq ↔ X = Y := by
  simp only [compare, compareOfLessAndEq]; by_cases h : X < Y <;> simp [h]; omega

theorem od_trans (a b c : Ieee.Datum) (h : a.order b = some .lt) (k : b.order c = some .lt) : a.order c = some .lt := by
  cases a with
  | nan => simp [Ieee.Datum.order] at h
  | infinity s =>
    cases b with
    | nan => simp [Ieee.Datum.order] at h
    | infinity t => cases c with
      | nan => simp [Ieee.Datum.order] at k
      | infinity r => revert h k; cases s <;> cases t <;> cases r <;> decide
      | number r o l => revert h k; cases s <;> cases t <;> simp [Ieee.Datum.order, compare, compareOfLessAndEq]
    | number t n j => cases c with
      | nan => simp [Ieee.Datum.order] at k
      | infinity r => revert h k; cases s <;> cases r <;> simp [Ieee.Datum.order, compare, compareOfLessAndEq]
      | number r o l => revert h k; cases s <;> simp [Ieee.Datum.order]
  | number s m i =>
    cases b with
    | nan => simp [Ieee.Datum.order] at h
    | infinity t => cases c with
      | nan => simp [Ieee.Datum.order] at k
      | infinity r => revert h k; cases t <;> cases r <;> simp [Ieee.Datum.order, compare, compareOfLessAndEq]
      | number r o l => revert h k; cases t <;> simp [Ieee.Datum.order]
    | number t n j => cases c with
      | nan => simp [Ieee.Datum.order] at k
      | infinity r => revert h k; cases r <;> simp [Ieee.Datum.order]
      | number r o l =>
        have b1 : min i (min j l) ≤ i := by omega
        have b2 : min i (min j l) ≤ j := by omega
        have b3 : min i (min j l) ≤ l := by omega
        rw [ord_num s t m n i j _ b1 b2, Option.some.injEq, cmp_lt] at h
        rw [ord_num t r n o j l _ b2 b3, Option.some.injEq, cmp_lt] at k
        rw [ord_num s r m o i l _ b1 b3, Option.some.injEq, cmp_lt]
        omega

/-- Of two that are no NaN. -/
theorem od_tri (a b : Ieee.Datum) (ha : a.isNaN = false) (hb : b.isNaN = false) :
    (a.order b = some .lt ∧ b.order a ≠ some .lt ∧ a.order b ≠ some .eq) ∨ (a.order b ≠ some .lt ∧ b.order a = some .lt ∧ a.order b ≠ some .eq) ∨ (a.order b ≠ some .lt ∧ b.order a ≠ some .lt ∧ a.order b = some .eq) := by
  cases a with
  | nan => simp [Ieee.Datum.isNaN] at ha
  | infinity s => cases b with
    | nan => simp [Ieee.Datum.isNaN] at hb
    | infinity t => cases s <;> cases t <;> decide
    | number t n j => cases s <;> simp [Ieee.Datum.order]
  | number s m i => cases b with
    | nan => simp [Ieee.Datum.isNaN] at hb
    | infinity t => cases t <;> simp [Ieee.Datum.order]
    | number t n j =>
      have b1 : min i j ≤ i := by omega
      have b2 : min i j ≤ j := by omega
      rw [ord_num s t m n i j _ b1 b2, ord_num t s n m j i _ b2 b1]
      simp only [ne_eq, Option.some.injEq, cmp_lt, cmp_eq]
      omega
theorem od_nan (a b : Ieee.Datum) (h : a.isNaN = true ∨ b.isNaN = true) : a.order b = none := by
  cases a <;> cases b <;> simp_all [Ieee.Datum.isNaN, Ieee.Datum.order]

/-- The law's own look for a NaN. -/
def nanB (u : Int) : Bool := (bits .and .u64 u 9218868437227405312 == 9218868437227405312) && (bits .and .u64 u 4503599627370495 != 0)
theorem nanB_is (u : Int) (h0 : 0 ≤ u) (h1 : u < 18446744073709551616) : nanB u = (FloatKind.f64.format.read u.toNat).isNaN := by
  obtain ⟨n, rfl⟩ : ∃ n : Nat, u = n := ⟨u.toNat, by omega⟩
  have hn : n < 18446744073709551616 := by omega
  have e1 : bits .and .u64 (n : Int) 9218868437227405312 = ((n &&& 9218868437227405312 : Nat) : Int) := bits_and_u64_nat n 9218868437227405312 hn (by decide)
  have e2 : bits .and .u64 (n : Int) 4503599627370495 = ((n &&& 4503599627370495 : Nat) : Int) := bits_and_u64_nat n 4503599627370495 hn (by decide)
  have m2 : n &&& 4503599627370495 = n % 4503599627370496 := Nat.and_two_pow_sub_one_eq_mod n 52
  have m1 : n &&& 9218868437227405312 = (n / 4503599627370496 % 2048) * 4503599627370496 := by
    have k1 : (9218868437227405312 : Nat) = 2047 <<< 52 := by decide
    have k2 : n / 4503599627370496 % 2048 = (n >>> 52) &&& 2047 := by rw [Nat.shiftRight_eq_div_pow]; exact (Nat.and_two_pow_sub_one_eq_mod _ 11).symm
    rw [k2, k1, show (4503599627370496 : Nat) = 2 ^ 52 from by decide, ← Nat.shiftLeft_eq]
    apply Nat.eq_of_testBit_eq
    intro j
    simp only [Nat.testBit_and, Nat.testBit_shiftLeft, Nat.testBit_shiftRight]
    by_cases hj : 52 ≤ j
    · simp [hj, show 52 + (j - 52) = j from by omega]
    · simp [hj]
  unfold nanB
  rw [e1, e2, m1, m2]
  have hr : FloatKind.f64.format = Ieee.double := rfl
  rw [hr, Int.toNat_natCast]
  have hs : Ieee.double.signWeight = 9223372036854775808 := by decide
  have hbn : Ieee.double.binade = 4503599627370496 := by decide
  have hif : Ieee.double.infRung = 9218868437227405312 := by decide
  unfold Ieee.Format.read
  simp only [hs, hbn, hif]
  by_cases c1 : n % 9223372036854775808 < 4503599627370496
  · rw [if_pos c1]
    have : n / 4503599627370496 % 2048 = 0 := by omega
    rw [this]; rfl
  · rw [if_neg c1]
    by_cases c2 : n % 9223372036854775808 < 9218868437227405312
    · rw [if_pos c2]
      have : n / 4503599627370496 % 2048 < 2047 := by omega
      have h3 : ¬ (((n / 4503599627370496 % 2048 * 4503599627370496 : Nat) : Int) = 9218868437227405312) := by omega
      simp [Ieee.Datum.isNaN]; intro h; exfalso; exact h3 (by omega)
    · rw [if_neg c2]
      have q : n / 4503599627370496 % 2048 = 2047 := by omega
      rw [q]
      by_cases c3 : n % 9223372036854775808 = 9218868437227405312
      · rw [if_pos c3]
        have : n % 4503599627370496 = 0 := by omega
        rw [this]; rfl
      · rw [if_neg c3]
        have : n % 4503599627370496 ≠ 0 := by omega
        simp [Ieee.Datum.isNaN]; omega

/-- Less and ==, of two values of one kind. -/
def ltV (k i u : Int) (s : ByteArray) (j v : Int) (z : ByteArray) : Bool :=
  if k = 3 then FloatKind.f64.format.order u.toNat v.toNat == some .lt else if k = 4 ∨ k = 5 then Op.bytesLess s.toList z.toList else decide (i < j)
def eqV (k i u : Int) (s : ByteArray) (j v : Int) (z : ByteArray) : Bool :=
  if k = 3 then FloatKind.f64.format.order u.toNat v.toNat == some .eq else if k = 4 ∨ k = 5 then s == z else i == j
def nanV (k u : Int) : Bool := if k = 3 then nanB u else false
def In64 (u : Int) : Prop := 0 ≤ u ∧ u < 18446744073709551616

theorem ltV_trans (k i u : Int) (s : ByteArray) (j v : Int) (z : ByteArray) (l x : Int) (r : ByteArray) (h : ltV k i u s j v z = true) (h' : ltV k j v z l x r = true) : ltV k i u s l x r = true := by
  unfold ltV at *
  by_cases c3 : k = 3
  · simp only [c3, if_true, beq_iff_eq] at *
    exact od_trans _ _ _ h h'
  · rw [if_neg c3] at *
    by_cases c4 : k = 4 ∨ k = 5
    · rw [if_pos c4] at *
      exact bl_trans _ _ _ h h'
    · rw [if_neg c4] at *
      simp only [decide_eq_true_eq] at *
      omega
theorem ltV_nan (k i u : Int) (s : ByteArray) (j v : Int) (z : ByteArray) (hu : In64 u) (hv : In64 v) (h : nanV k u = true ∨ nanV k v = true) :
    ltV k i u s j v z = false ∧ ltV k j v z i u s = false ∧ eqV k i u s j v z = false := by
  unfold nanV at h
  by_cases c3 : k = 3
  · simp only [c3, if_true] at h
    rw [nanB_is u hu.1 hu.2, nanB_is v hv.1 hv.2] at h
    have h1 := od_nan _ _ h
    have h2 := od_nan _ _ h.symm
    unfold ltV eqV
    simp only [c3, if_true, Ieee.Format.order, h1, h2]
    decide
  · simp [c3] at h
theorem ltV_tri (k i u : Int) (s : ByteArray) (j v : Int) (z : ByteArray) (hu : In64 u) (hv : In64 v) (h1 : nanV k u = false) (h2 : nanV k v = false) :
    (ltV k i u s j v z = true ∧ ltV k j v z i u s = false ∧ eqV k i u s j v z = false) ∨ (ltV k i u s j v z = false ∧ ltV k j v z i u s = true ∧ eqV k i u s j v z = false) ∨ (ltV k i u s j v z = false ∧ ltV k j v z i u s = false ∧ eqV k i u s j v z = true) := by
  unfold ltV eqV nanV at *
  by_cases c3 : k = 3
  · simp only [c3, if_true] at *
    rw [nanB_is u hu.1 hu.2] at h1
    rw [nanB_is v hv.1 hv.2] at h2
    have := od_tri _ _ h1 h2
    simpa only [Ieee.Format.order, beq_iff_eq, beq_eq_false_iff_ne, ne_eq] using this
  · rw [if_neg c3, if_neg c3, if_neg c3]
    by_cases c4 : k = 4 ∨ k = 5
    · rw [if_pos c4, if_pos c4, if_pos c4]
      cases e1 : Op.bytesLess s.toList z.toList with
      | true =>
        left
        refine ⟨rfl, bl_asym _ _ e1, ?_⟩
        cases e : s == z with
        | false => rfl
        | true =>
          have : s = z := (ba_beq s z).1 e
          subst this
          rw [bl_irr] at e1; cases e1
      | false =>
        cases e2 : Op.bytesLess z.toList s.toList with
        | true =>
          right; left
          refine ⟨rfl, rfl, ?_⟩
          cases e : s == z with
          | false => rfl
          | true =>
            have : s = z := (ba_beq s z).1 e
            subst this
            rw [bl_irr] at e2; cases e2
        | false =>
          right; right
          have := ba_list _ _ (bl_tri _ _ e1 e2)
          exact ⟨rfl, rfl, (ba_beq s z).2 this⟩
    · rw [if_neg c4, if_neg c4, if_neg c4]
      simp only [decide_eq_true_eq, decide_eq_false_iff_not, beq_iff_eq, beq_eq_false_iff_ne, ne_eq]
      omega
end Go.Proofs.YtlmebokbbhjbmaaGreatDoor.Dt
