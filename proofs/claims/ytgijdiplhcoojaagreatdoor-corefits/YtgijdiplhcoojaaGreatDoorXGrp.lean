/- Of trees: equal is equal either way round, and goes on; and the two ways to number values by the first that is equal say the same. No program. -/
import Derived.Test.YtgijdiplhcoojaaGreatDoorJca
import Derived.Laws.Bits64b
import Derived.Laws.Cover2
namespace Go.Proofs.YtgijdiplhcoojaaGreatDoor.Dt
open Go.RowKit
theorem signed_up (s : Bool) (m u k : Nat) : Ieee.signed s m (u + k) = Ieee.signed s m u * 2 ^ k := by
  unfold Ieee.signed
  cases s
  · simp [Nat.shiftLeft_eq, Nat.pow_add, ← Nat.mul_assoc]
  · simp [Nat.shiftLeft_eq, Nat.pow_add, ← Nat.mul_assoc, Int.neg_mul]
theorem ord_num (s t : Bool) (m n : Nat) (i j b : Int) (h1 : b ≤ i) (h2 : b ≤ j) :
    (Ieee.Datum.number s m i).order (.number t n j) = some (compare (Ieee.signed s m (i - b).toNat) (Ieee.signed t n (j - b).toNat)) := by
  have e1 : (i - b).toNat = (i - min i j).toNat + (min i j - b).toNat := by omega
  have e2 : (j - b).toNat = (j - min i j).toNat + (min i j - b).toNat := by omega
  show some (compare (Ieee.signed s m (i - min i j).toNat) (Ieee.signed t n (j - min i j).toNat)) = _
  rw [e1, e2, signed_up, signed_up]
  generalize Ieee.signed s m (i - min i j).toNat = X
  generalize Ieee.signed t n (j - min i j).toNat = Y
  have hp : (0 : Int) < 2 ^ (min i j - b).toNat := Int.pow_pos (by decide)
  generalize (2 : Int) ^ (min i j - b).toNat = Q at hp
  congr 1
  simp only [compare, compareOfLessAndEq]
  by_cases h : X < Y
  · rw [if_pos h, if_pos (Int.mul_lt_mul_of_pos_right h hp)]
  · rw [if_neg h, if_neg (fun hh => h (Int.lt_of_mul_lt_mul_right hh (Int.le_of_lt hp)))]
    by_cases h' : X = Y
    · rw [if_pos h', if_pos (by rw [h'])]
    · rw [if_neg h', if_neg (fun hh => h' (Int.eq_of_mul_eq_mul_right (by omega) hh))]
theorem cmp_eq (X Y : Int) : compare X Y = .eq ↔ X = Y := by
  simp only [compare, compareOfLessAndEq]; by_cases h : X < Y <;> simp [h]; omega

theorem od_eqs (a b : Ieee.Datum) (h : a.order b = some .eq) : b.order a = some .eq := by
  cases a with
  | nan => simp [Ieee.Datum.order] at h
  | infinity s => cases b with
    | nan => simp [Ieee.Datum.order] at h
    | infinity t => revert h; cases s <;> cases t <;> decide
    | number t n j => revert h; cases s <;> simp [Ieee.Datum.order]
  | number s m i => cases b with
    | nan => simp [Ieee.Datum.order] at h
    | infinity t => revert h; cases t <;> simp [Ieee.Datum.order]
    | number t n j =>
      have b1 : min i j ≤ i := by omega
      have b2 : min i j ≤ j := by omega
      rw [ord_num s t m n i j _ b1 b2, Option.some.injEq, cmp_eq] at h
      rw [ord_num t s n m j i _ b2 b1, Option.some.injEq, cmp_eq]
      omega
theorem od_eqt (a b c : Ieee.Datum) (h : a.order b = some .eq) (k : b.order c = some .eq) : a.order c = some .eq := by
  cases a with
  | nan => simp [Ieee.Datum.order] at h
  | infinity s =>
    cases b with
    | nan => simp [Ieee.Datum.order] at h
    | infinity t => cases c with
      | nan => simp [Ieee.Datum.order] at k
      | infinity r => revert h k; cases s <;> cases t <;> cases r <;> decide
      | number r o l => revert h k; cases s <;> cases t <;> simp [Ieee.Datum.order, compare, compareOfLessAndEq]
    | number t n j => revert h; cases s <;> simp [Ieee.Datum.order]
  | number s m i =>
    cases b with
    | nan => simp [Ieee.Datum.order] at h
    | infinity t => revert h; cases t <;> simp [Ieee.Datum.order]
    | number t n j => cases c with
      | nan => simp [Ieee.Datum.order] at k
      | infinity r => revert k; cases r <;> simp [Ieee.Datum.order]
      | number r o l =>
        have b1 : min i (min j l) ≤ i := by omega
        have b2 : min i (min j l) ≤ j := by omega
        have b3 : min i (min j l) ≤ l := by omega
        rw [ord_num s t m n i j _ b1 b2, Option.some.injEq, cmp_eq] at h
        rw [ord_num t r n o j l _ b2 b3, Option.some.injEq, cmp_eq] at k
        rw [ord_num s r m o i l _ b1 b3, Option.some.injEq, cmp_eq]
        omega
theorem fl_sym (u v : Nat) (h : (FloatKind.f64.format.order u v == some .eq) = true) : (FloatKind.f64.format.order v u == some .eq) = true := by
  rw [beq_iff_eq] at h ⊢
  exact od_eqs _ _ h
theorem fl_trans (u v x : Nat) (h : (FloatKind.f64.format.order u v == some .eq) = true) (k : (FloatKind.f64.format.order v x == some .eq) = true) : (FloatKind.f64.format.order u x == some .eq) = true := by
  rw [beq_iff_eq] at h k ⊢
  exact od_eqt _ _ _ h k

/-- What it takes to be equal. -/
theorem eqT_true (n m : Nat) (a : Tr (n + 1)) (b : Tr (m + 1)) : (eqT (n + 1) (m + 1) a b).1 = true ↔ a.kd = b.kd ∧ a.kd ≠ 7 ∧ a.kd ≠ 8 ∧ (if a.kd = 3 then (FloatKind.f64.format.order a.ut.toNat b.ut.toNat == some .eq) = true else if a.kd = 9 then (eqP (eqT n m) a.ks b.ks).1 = true else a.it = b.it ∧ a.tx = b.tx) := by
  simp only [eqT]
  by_cases h1 : a.kd = b.kd
  · rw [if_neg (by simp [h1])]
    by_cases h2 : a.kd = 7 ∨ a.kd = 8
    · rw [if_pos h2]; simp; omega
    · rw [if_neg h2]
      by_cases h3 : a.kd = 3
      · rw [if_pos h3, if_pos h3]; simp [← h1, h3]
      · rw [if_neg h3, if_neg h3]
        by_cases h9 : a.kd = 9
        · rw [if_pos h9, if_pos h9]; simp [← h1, h9]
        · rw [if_neg h9, if_neg h9]
          simp only [Bool.and_eq_true, beq_iff_eq, ba_beq]
          constructor
          · intro h; exact ⟨h1, by omega, by omega, h⟩
          · intro h; exact h.2.2.2
  · rw [if_pos h1]; simp [h1]
theorem eqP_true {T U : Type} (c : T → U → Bool × Int) (xs : List T) (ys : List U) : (eqP c xs ys).1 = true ↔ ∃ a0 a1 b0 b1, xs = [a0, a1] ∧ ys = [b0, b1] ∧ (c a0 b0).2 = 0 ∧ (c a0 b0).1 = true ∧ (c a1 b1).1 = true := by
  match xs, ys with
  | [a0, a1], [b0, b1] =>
    simp only [eqP]
    by_cases h : (c a0 b0).2 ≠ 0 ∨ (c a0 b0).1 = false
    · rw [if_pos h]
      constructor
      · intro h; cases h
      · rintro ⟨x0, x1, y0, y1, e1, e2, h1, h2, h3⟩
        simp at e1 e2
        obtain ⟨rfl, rfl⟩ := e1
        obtain ⟨rfl, rfl⟩ := e2
        rcases h with h | h
        · exact absurd h1 h
        · rw [h] at h2; cases h2
    · rw [if_neg h]
      constructor
      · intro k
        refine ⟨a0, a1, b0, b1, rfl, rfl, ?_, ?_, k⟩
        · by_cases q : (c a0 b0).2 = 0
          · exact q
          · exact absurd (Or.inl q) h
        · cases q : (c a0 b0).1 with
          | true => rfl
          | false => exact absurd (Or.inr q) h
      · rintro ⟨x0, x1, y0, y1, e1, e2, h1, h2, h3⟩
        simp at e1 e2
        obtain ⟨rfl, rfl⟩ := e1
        obtain ⟨rfl, rfl⟩ := e2
        exact h3
  | [], _ | [_], _ | _ :: _ :: _ :: _, _ | [_, _], [] | [_, _], [_] | [_, _], _ :: _ :: _ :: _ => simp [eqP]
theorem true_code : ∀ (n m : Nat) (a : Tr n) (b : Tr m), (eqT n m a b).1 = true → (eqT n m a b).2 = 0
  | 0, _, a, _ => a.elim
  | _ + 1, 0, _, b => b.elim
  | n + 1, m + 1, a, b => by
    intro h
    obtain ⟨h1, h7, h8, h⟩ := (eqT_true n m a b).1 h
    simp only [eqT]
    rw [if_neg (by simp [h1]), if_neg (by omega)]
    by_cases h3 : a.kd = 3
    · rw [if_pos h3]
    · rw [if_neg h3]
      rw [if_neg h3] at h
      by_cases h9 : a.kd = 9
      · rw [if_pos h9]
        rw [if_pos h9] at h
        obtain ⟨a0, a1, b0, b1, e1, e2, k0, k1, k2⟩ := (eqP_true _ _ _).1 h
        rw [e1, e2]
        simp only [eqP]
        rw [if_neg (by rw [k0, k1]; simp)]
        exact true_code n m a1 b1 k2
      · rw [if_neg h9]
theorem eq_sym : ∀ (n m : Nat) (a : Tr n) (b : Tr m), (eqT n m a b).1 = true → (eqT m n b a).1 = true
  | 0, _, a, _ => a.elim
  | _ + 1, 0, _, b => b.elim
  | n + 1, m + 1, a, b => by
    intro h
    obtain ⟨h1, h7, h8, h⟩ := (eqT_true n m a b).1 h
    refine (eqT_true m n b a).2 ⟨h1.symm, by omega, by omega, ?_⟩
    by_cases h3 : a.kd = 3
    · rw [if_pos h3] at h; rw [if_pos (by omega)]; exact fl_sym _ _ h
    · rw [if_neg h3] at h; rw [if_neg (by omega)]
      by_cases h9 : a.kd = 9
      · rw [if_pos h9] at h; rw [if_pos (by omega)]
        obtain ⟨a0, a1, b0, b1, e1, e2, k0, k1, k2⟩ := (eqP_true _ _ _).1 h
        have q := eq_sym n m a0 b0 k1
        exact (eqP_true _ _ _).2 ⟨b0, b1, a0, a1, e2, e1, true_code _ _ _ _ q, q, eq_sym n m a1 b1 k2⟩
      · rw [if_neg h9] at h; rw [if_neg (by omega)]; exact ⟨h.1.symm, h.2.symm⟩
theorem eq_trans' : ∀ (n m k : Nat) (a : Tr n) (b : Tr m) (c : Tr k), (eqT n m a b).1 = true → (eqT m k b c).1 = true → (eqT n k a c).1 = true
  | 0, _, _, a, _, _ => a.elim
  | _ + 1, 0, _, _, b, _ => b.elim
  | _ + 1, _ + 1, 0, _, _, c => c.elim
  | n + 1, m + 1, k + 1, a, b, c => by
    intro h h'
    obtain ⟨h1, h7, h8, h⟩ := (eqT_true n m a b).1 h
    obtain ⟨g1, g7, g8, g⟩ := (eqT_true m k b c).1 h'
    refine (eqT_true n k a c).2 ⟨h1.trans g1, h7, h8, ?_⟩
    by_cases h3 : a.kd = 3
    · rw [if_pos h3] at h; rw [if_pos (by omega)] at g; rw [if_pos h3]; exact fl_trans _ _ _ h g
    · rw [if_neg h3] at h; rw [if_neg (by omega)] at g; rw [if_neg h3]
      by_cases h9 : a.kd = 9
      · rw [if_pos h9] at h; rw [if_pos (by omega)] at g; rw [if_pos h9]
        obtain ⟨a0, a1, b0, b1, e1, e2, k0, k1, k2⟩ := (eqP_true _ _ _).1 h
        obtain ⟨c0, c1, d0, d1, f1, f2, l0, l1, l2⟩ := (eqP_true _ _ _).1 g
        rw [e2] at f1
        simp at f1
        obtain ⟨rfl, rfl⟩ := f1
        have q := eq_trans' n m k a0 b0 d0 k1 l1
        exact (eqP_true _ _ _).2 ⟨a0, a1, d0, d1, e1, f2, true_code _ _ _ _ q, q, eq_trans' n m k a1 b1 d1 k2 l2⟩
      · rw [if_neg h9] at h; rw [if_neg (by omega)] at g; rw [if_neg h9]; exact ⟨h.1.trans g.1, h.2.trans g.2⟩

/-- Going down: the last that is met. -/
def down (f : Nat → Bool) : Nat → Nat → Nat
  | 0, at' => at'
  | k + 1, at' => down f k (if f k = true then k else at')
theorem down_spec (f : Nat → Bool) : ∀ (i a : Nat), (down f i a = a ∧ ∀ k, k < i → f k = false) ∨ (down f i a < i ∧ f (down f i a) = true ∧ ∀ k, k < down f i a → f k = false)
  | 0, a => .inl ⟨rfl, fun k hk => absurd hk (Nat.not_lt_zero _)⟩
  | i + 1, a => by
    simp only [down]
    cases hi : f i with
    | true =>
      simp only [if_true]
      rcases down_spec f i i with ⟨h1, h2⟩ | ⟨h1, h2, h3⟩
      · exact .inr ⟨by omega, by rw [h1]; exact hi, fun k hk => h2 k (by omega)⟩
      · exact .inr ⟨by omega, h2, h3⟩
    | false =>
      simp only [Bool.false_eq_true, if_false]
      rcases down_spec f i a with ⟨h1, h2⟩ | ⟨h1, h2, h3⟩
      · refine .inl ⟨h1, fun k hk => ?_⟩
        by_cases e : k = i
        · rw [e]; exact hi
        · exact h2 k (by omega)
      · exact .inr ⟨by omega, h2, h3⟩
def eqB (ts : List (Tr 16)) (k i : Nat) : Bool := match ts[k]?, ts[i]? with
  | some a, some b => (eqT 16 16 a b).1
  | _, _ => false
/-- The document's place. -/
def refAt (ts : List (Tr 16)) (i : Nat) : Nat := down (fun k => eqB ts k i) i i
/-- The package's first places. -/
def kls (ts : List (Tr 16)) : Nat → List Nat
  | 0 => []
  | i + 1 => if refAt ts i = i then kls ts i ++ [i] else kls ts i
theorem eqB_sym (ts : List (Tr 16)) (k i : Nat) (h : eqB ts k i = true) : eqB ts i k = true := by
  unfold eqB at *
  cases h1 : ts[k]? with
  | none => rw [h1] at h; simp at h
  | some a =>
    cases h2 : ts[i]? with
    | none => rw [h1, h2] at h; simp at h
    | some b => rw [h1, h2] at h; exact eq_sym _ _ _ _ h
theorem eqB_trans (ts : List (Tr 16)) (k i j : Nat) (h : eqB ts k i = true) (h' : eqB ts i j = true) : eqB ts k j = true := by
  unfold eqB at *
  cases h1 : ts[k]? with
  | none => rw [h1] at h; simp at h
  | some a =>
    cases h2 : ts[i]? with
    | none => rw [h1, h2] at h; simp at h
    | some b =>
      cases h3 : ts[j]? with
      | none => rw [h2, h3] at h'; simp at h'
      | some c => rw [h1, h2] at h; rw [h2, h3] at h'; exact eq_trans' _ _ _ _ _ _ h h'
theorem kls_find (ts : List (Tr 16)) (p : Nat → Bool) : ∀ i, ((kls ts i).find? p = none ∧ ∀ k, k < i → refAt ts k = k → p k = false) ∨ (∃ k, (kls ts i).find? p = some k ∧ k < i ∧ p k = true ∧ refAt ts k = k ∧ ∀ j, j < k → refAt ts j = j → p j = false)
  | 0 => .inl ⟨rfl, fun k hk => absurd hk (Nat.not_lt_zero _)⟩
  | i + 1 => by
    simp only [kls]
    rcases kls_find ts p i with ⟨h1, h2⟩ | ⟨k, h1, h2, h3, h4, h5⟩
    · by_cases hr : refAt ts i = i
      · rw [if_pos hr, List.find?_append, h1]
        cases hp : p i with
        | true => exact .inr ⟨i, by simp [hp], by omega, hp, hr, fun j hj hjr => h2 j hj hjr⟩
        | false =>
          refine .inl ⟨by simp [hp], fun k hk hkr => ?_⟩
          by_cases e : k = i
          · rw [e]; exact hp
          · exact h2 k (by omega) hkr
      · rw [if_neg hr]
        refine .inl ⟨h1, fun k hk hkr => ?_⟩
        by_cases e : k = i
        · rw [e] at hkr; exact absurd hkr hr
        · exact h2 k (by omega) hkr
    · by_cases hr : refAt ts i = i
      · rw [if_pos hr, List.find?_append, h1]
        exact .inr ⟨k, by simp, by omega, h3, h4, h5⟩
      · rw [if_neg hr]
        exact .inr ⟨k, h1, by omega, h3, h4, h5⟩
/-- The look-up among the first places finds the document's place. -/
theorem kls_at (ts : List (Tr 16)) (i : Nat) : ((kls ts i).find? (fun k => eqB ts i k) = none ∧ refAt ts i = i) ∨ ((kls ts i).find? (fun k => eqB ts i k) = some (refAt ts i) ∧ refAt ts i < i) := by
  have D := down_spec (fun k => eqB ts k i) i i
  have hd : down (fun k => eqB ts k i) i i = refAt ts i := rfl
  rw [hd] at D
  rcases kls_find ts (fun k => eqB ts i k) i with ⟨h1, h2⟩ | ⟨k, h1, h2, h3, h4, h5⟩
  · rcases D with ⟨d1, d2⟩ | ⟨d1, d2, d3⟩
    · exact .inl ⟨h1, d1⟩
    · exfalso
      have hm : refAt ts (refAt ts i) = refAt ts i := by
        rcases down_spec (fun k => eqB ts k (refAt ts i)) (refAt ts i) (refAt ts i) with ⟨e1, -⟩ | ⟨e1, e2, -⟩
        · exact e1
        · have := eqB_trans ts _ _ _ e2 d2
          rw [d3 _ e1] at this; cases this
      have := h2 _ d1 hm
      rw [eqB_sym ts _ _ d2] at this; cases this
  · have hk := eqB_sym ts _ _ h3
    rcases D with ⟨d1, d2⟩ | ⟨d1, d2, d3⟩
    · rw [d2 k h2] at hk; cases hk
    · have hm : refAt ts (refAt ts i) = refAt ts i := by
        rcases down_spec (fun k => eqB ts k (refAt ts i)) (refAt ts i) (refAt ts i) with ⟨e1, -⟩ | ⟨e1, e2, -⟩
        · exact e1
        · have := eqB_trans ts _ _ _ e2 d2
          rw [d3 _ e1] at this; cases this
      have e : k = refAt ts i := by
        by_cases l1 : k < refAt ts i
        · rw [d3 k l1] at hk; cases hk
        · by_cases l2 : refAt ts i < k
          · have := h5 _ l2 hm
            rw [eqB_sym ts _ _ d2] at this; cases this
          · omega
      rw [← e]
      exact .inr ⟨h1, h2⟩
end Go.Proofs.YtgijdiplhcoojaaGreatDoor.Dt
