/- Of trees: == says the same either way round; what may be a key is equal to itself but for a NaN; what may not is not. No program. -/
import Derived.Test.YtgpbnmlcfimnnaaDoorGrp
import Derived.Laws.Bits64b
import Derived.Laws.Cover2
import Derived.Laws.Strings
namespace Go.Proofs.YtgpbnmlcfimnnaaDoor
open Go.RowKit
/-- The law's own look for a NaN. -/
def nanB (u : Int) : Bool := (bits .and .u64 u 9218868437227405312 == 9218868437227405312) && (bits .and .u64 u 4503599627370495 != 0)
theorem nanB_is (u : Int) (h0 : 0 ≤ u) (h1 : u < 18446744073709551616) : nanB u = (FloatKind.f64.format.read u.toNat).isNaN := by
  obtain ⟨n, rfl⟩ : ∃ n : Nat, u = n := ⟨u.toNat, by omega⟩
  have hn : n < 18446744073709551616 := by omega
  have e1 : bits .and .u64 (n : Int) 9218868437227405312 = ((n &&& 9218868437227405312 : Nat) : Int) := bits_and_u64_nat n 9218868437227405312 hn (by decide)
  have e2 : bits .and .u64 (n : Int) 4503599627370495 = ((n &&& 4503599627370495 : Nat) : Int) := bits_and_u64_nat n 4503599627370495 hn (by decide)
  have m2 : n &&& 4503599627370495 = n % 4503599627370496 := Nat.and_two_pow_sub_one_eq_mod n 52
  have m1 : n &&& 9218868437227405312 = (n / 4503599627370496 % 2048) * 4503599627370496 := by
    have k1 : (9218868437227405312 : Nat) = 2047 <<< 52 := by decide
    have k2 : n / 4503599627370496 % 2048 = (n >>> 52) &&& 2047 := by rw [Nat.shiftRight_eq_div_pow]; exact (Nat.and_two_pow_sub_one_eq_mod _ 11).symm
    rw [k2, k1, show (4503599627370496 : Nat) = 2 ^ 52 from by decide, ← Nat.shiftLeft_eq]
    apply Nat.eq_of_testBit_eq
    intro j
    simp only [Nat.testBit_and, Nat.testBit_shiftLeft, Nat.testBit_shiftRight]
    by_cases hj : 52 ≤ j
    · simp [hj, show 52 + (j - 52) = j from by omega]
    · simp [hj]
  unfold nanB
  rw [e1, e2, m1, m2]
  have hr : FloatKind.f64.format = Ieee.double := rfl
  rw [hr, Int.toNat_natCast]
  have hs : Ieee.double.signWeight = 9223372036854775808 := by decide
  have hbn : Ieee.double.binade = 4503599627370496 := by decide
  have hif : Ieee.double.infRung = 9218868437227405312 := by decide
  unfold Ieee.Format.read
  simp only [hs, hbn, hif]
  by_cases c1 : n % 9223372036854775808 < 4503599627370496
  · rw [if_pos c1]
    have : n / 4503599627370496 % 2048 = 0 := by omega
    rw [this]; rfl
  · rw [if_neg c1]
    by_cases c2 : n % 9223372036854775808 < 9218868437227405312
    · rw [if_pos c2]
      have : n / 4503599627370496 % 2048 < 2047 := by omega
      have h3 : ¬ (((n / 4503599627370496 % 2048 * 4503599627370496 : Nat) : Int) = 9218868437227405312) := by omega
      simp [Ieee.Datum.isNaN]; intro h; exfalso; exact h3 (by omega)
    · rw [if_neg c2]
      have q : n / 4503599627370496 % 2048 = 2047 := by omega
      rw [q]
      by_cases c3 : n % 9223372036854775808 = 9218868437227405312
      · rw [if_pos c3]
        have : n % 4503599627370496 = 0 := by omega
        rw [this]; rfl
      · rw [if_neg c3]
        have : n % 4503599627370496 ≠ 0 := by omega
        simp [Ieee.Datum.isNaN]; omega


theorem fl_comm (u v : Nat) : (FloatKind.f64.format.order u v == some .eq) = (FloatKind.f64.format.order v u == some .eq) := by
  cases h : (FloatKind.f64.format.order u v == some .eq) with
  | true => exact (fl_sym _ _ h).symm
  | false =>
    cases k : (FloatKind.f64.format.order v u == some .eq) with
    | false => rfl
    | true => rw [fl_sym _ _ k] at h; cases h
theorem ba_comm (s z : ByteArray) : (s == z) = (z == s) := by
  cases h : s == z with
  | true => rw [(ba_beq s z).1 h]; exact ((ba_beq z z).2 rfl).symm
  | false =>
    cases k : z == s with
    | false => rfl
    | true => rw [(ba_beq z s).1 k, (ba_beq s s).2 rfl] at h; cases h
theorem eqP_comm {T U : Type} (c : T → U → Bool × Int) (d : U → T → Bool × Int) (h : ∀ a b, c a b = d b a) : ∀ (xs : List T) (ys : List U), eqP c xs ys = eqP d ys xs
  | [a0, a1], [b0, b1] => by simp only [eqP, h]
  | [], [] | [], [_] | [], [_, _] | [], _ :: _ :: _ :: _ => rfl
  | [_], [] | [_], [_] | [_], [_, _] | [_], _ :: _ :: _ :: _ => rfl
  | [_, _], [] | [_, _], [_] | [_, _], _ :: _ :: _ :: _ => rfl
  | _ :: _ :: _ :: _, [] | _ :: _ :: _ :: _, [_] | _ :: _ :: _ :: _, [_, _] | _ :: _ :: _ :: _, _ :: _ :: _ :: _ => rfl
theorem eqT_comm : ∀ (n m : Nat) (a : Tr n) (b : Tr m), eqT n m a b = eqT m n b a
  | 0, _, a, _ => a.elim
  | _ + 1, 0, _, b => b.elim
  | n + 1, m + 1, a, b => by
    simp only [eqT]
    by_cases h1 : a.kd = b.kd
    · rw [h1]
      split
      · rfl
      split
      · rfl
      split
      · rw [fl_comm]
      split
      · exact eqP_comm _ _ (eqT_comm n m) _ _
      · rw [ba_comm, show (a.it == b.it) = (b.it == a.it) from by rw [Bool.beq_comm (a := a.it)]]
    · rw [if_pos h1, if_pos (fun e => h1 e.symm)]
/-- The law's nan. -/
def nanP {T : Type} (c : T → Bool) : List T → Bool
  | [a, b] => c a || c b
  | _ => false
def nanT : (n : Nat) → Tr n → Bool
  | 0, t => t.elim
  | n + 1, t => if t.kd = 3 then nanB t.ut else if t.kd = 9 then nanP (nanT n) t.ks else false
/-- The bits lie within 64. -/
def r64 : (n : Nat) → Tr n → Prop
  | 0, _ => True
  | n + 1, t => (0 ≤ t.ut ∧ t.ut < 18446744073709551616) ∧ ∀ x ∈ t.ks, r64 n x
theorem od_refl (a : Ieee.Datum) : (a.order a == some .eq) = !a.isNaN := by
  cases a with
  | nan => rfl
  | infinity s => cases s <;> rfl
  | number s m i =>
    rw [ord_num s s m m i i i (Int.le_refl _) (Int.le_refl _)]
    have : compare (Ieee.signed s m (i - i).toNat) (Ieee.signed s m (i - i).toNat) = .eq := (cmp_eq _ _).2 rfl
    rw [this]; rfl
theorem self_key : ∀ (n : Nat) (t : Tr n), rgt n t = true → r64 n t → keyT n t = true → eqT n n t t = (!nanT n t, 0)
  | 0, t => t.elim
  | n + 1, t => by
    intro hr h6 hk
    simp only [rgt, Bool.and_eq_true] at hr
    have ok := ok_plain hr.1
    simp only [keyT] at hk
    simp only [eqT, nanT]
    rw [if_neg (by simp)]
    by_cases h9 : t.kd = 9
    · rw [if_pos h9] at hk
      rw [if_neg (by omega), if_neg (by omega), if_pos h9, if_neg (by omega), if_pos h9]
      obtain ⟨s0, s1, e⟩ := list_two (ok.2.1 h9)
      have h62 := h6.2
      have ha := hr.2
      rw [e] at hk h62 ha ⊢
      simp only [keyP, Bool.and_eq_true] at hk
      simp only [List.all_cons, List.all_nil, Bool.and_true, Bool.and_eq_true] at ha
      have I0 := self_key n s0 ha.1 (h62 s0 (by simp)) hk.1
      have I1 := self_key n s1 ha.2 (h62 s1 (by simp)) hk.2
      simp only [eqP, nanP, I0, I1]
      cases nanT n s0 <;> simp
    · rw [if_neg h9] at hk
      simp at hk
      rw [if_neg (by omega)]
      by_cases h3 : t.kd = 3
      · rw [if_pos h3, if_pos h3, nanB_is t.ut h6.1.1 h6.1.2]
        exact Prod.ext (od_refl _) rfl
      · rw [if_neg h3, if_neg h9, if_neg h3, if_neg h9]
        have : (t.tx == t.tx) = true := (ba_beq _ _).2 rfl
        simp [this]
theorem self_no : ∀ (n : Nat) (t : Tr n), rgt n t = true → keyT n t = false → (eqT n n t t).1 = false
  | 0, t => t.elim
  | n + 1, t => by
    intro hr hk
    simp only [rgt, Bool.and_eq_true] at hr
    have ok := ok_plain hr.1
    cases h : (eqT (n + 1) (n + 1) t t).1 with
    | false => rfl
    | true =>
      exfalso
      obtain ⟨-, h7, h8, hh⟩ := (eqT_true n n t t).1 h
      simp only [keyT] at hk
      by_cases h9 : t.kd = 9
      · rw [if_neg (by omega), if_pos h9] at hh
        rw [if_pos h9] at hk
        obtain ⟨a0, a1, b0, b1, e1, e2, k0, k1, k2⟩ := (eqP_true _ _ _).1 hh
        have ha := hr.2
        rw [e1] at hk e2 ha
        simp at e2
        obtain ⟨rfl, rfl⟩ := e2
        simp only [List.all_cons, List.all_nil, Bool.and_true, Bool.and_eq_true] at ha
        simp only [keyP] at hk
        cases q0 : keyT n a0 with
        | false => rw [self_no n a0 ha.1 q0] at k1; cases k1
        | true =>
          cases q1 : keyT n a1 with
          | false => rw [self_no n a1 ha.2 q1] at k2; cases k2
          | true => rw [q0, q1] at hk; cases hk
      · rw [if_neg h9] at hk
        simp [h7, h8] at hk
end Go.Proofs.YtgpbnmlcfimnnaaDoor
