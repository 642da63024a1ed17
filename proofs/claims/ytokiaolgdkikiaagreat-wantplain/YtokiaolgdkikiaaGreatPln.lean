/- The one form of a pattern, as a plain tree of the kinds' bits: it is right, and it has these kinds; no program, no condition but that each theorem names. -/
import Derived.Test.YtokiaolgdkikiaaGreatAns
namespace Go.Proofs.YtokiaolgdkikiaaGreat
open Go.RowKit

/-- The patterns of one kind, of all, and of parts. -/
def wk {n : Nat} (k : Int) : Wt (n + 1) := ((2, k, []) : Int × Int × List (Wt n))
def wa {n : Nat} : Wt (n + 1) := ((1, 0, []) : Int × Int × List (Wt n))
def wn {n : Nat} (o : Int) (l : List (Wt n)) : Wt (n + 1) := ((o, 0, l) : Int × Int × List (Wt n))
/-- The kinds' bits without KNoPtr's, where KPtr's is set. -/
def dropN (X : Nat) : Nat := if X / 2 ^ 11 % 2 = 1 then X &&& (4294967295 - 4096) else X
def eT {n : Nat} (l : List Int) : Wt (n + 2) := if l.length = 1 then wk (l.headD 0) else wn 4 (l.map wk)
def pT (X : Nat) : Wt 3 :=
  if X = 0 then wn 5 [wa, wn 6 [wa]]
  else if X / 2 ^ 11 % 2 = 1 ∧ ¬ X / 2 ^ 12 % 2 = 1 then wn 5 [eT (mset (dropN X) 14), wn 6 [wk 12]]
  else eT (mset (dropN X) 14)

theorem bit_iff (X k : Nat) : X / 2 ^ k % 2 = 1 ↔ X.testBit k = true := by rw [Nat.testBit_eq_decide_div_mod_eq]; simp
theorem drop_bit (X k : Nat) (hk : k < 14) : (dropN X).testBit k = (X.testBit k && !(k == 12 && X.testBit 11)) := by
  unfold dropN
  by_cases h : X / 2 ^ 11 % 2 = 1
  · rw [if_pos h, Nat.testBit_and, (bit_iff X 11).1 h]
    have : (4294967295 - 4096 : Nat).testBit k = !(k == 12) := by
      have : k = 0 ∨ k = 1 ∨ k = 2 ∨ k = 3 ∨ k = 4 ∨ k = 5 ∨ k = 6 ∨ k = 7 ∨ k = 8 ∨ k = 9 ∨ k = 10 ∨ k = 11 ∨ k = 12 ∨ k = 13 := by omega
      rcases this with rfl | rfl | rfl | rfl | rfl | rfl | rfl | rfl | rfl | rfl | rfl | rfl | rfl | rfl <;> decide
    rw [this]; simp
  · rw [if_neg h]
    have : X.testBit 11 = false := by
      cases e : X.testBit 11 with
      | false => rfl
      | true => exact absurd ((bit_iff X 11).2 e) h
    rw [this]; simp

theorem mset_mem (M j : Nat) (x : Int) : x ∈ mset M j ↔ ∃ k : Nat, x = k ∧ k < j ∧ M.testBit k = true := by
  unfold mset
  simp only [List.mem_map, List.mem_filter, List.mem_range, beq_iff_eq]
  constructor
  · rintro ⟨k, ⟨h1, h2⟩, rfl⟩; exact ⟨k, rfl, h1, (bit_iff M k).1 h2⟩
  · rintro ⟨k, rfl, h1, h2⟩; exact ⟨k, ⟨h1, (bit_iff M k).2 h2⟩, rfl⟩
theorem mset_any (M j : Nat) (p : Int → Bool) : (mset M j).any p = true ↔ ∃ k : Nat, k < j ∧ M.testBit k = true ∧ p k = true := by
  rw [List.any_eq_true]
  constructor
  · rintro ⟨x, hx, hp⟩; obtain ⟨k, rfl, h1, h2⟩ := (mset_mem M j x).1 hx; exact ⟨k, h1, h2, hp⟩
  · rintro ⟨k, h1, h2, hp⟩; exact ⟨k, (mset_mem M j k).2 ⟨k, rfl, h1, h2⟩, hp⟩

theorem ev_wk {n : Nat} (x k : Int) : evk (n + 1) (wk x) k = (k == x || (x == 11 && k == 12)) := rfl
theorem ev_eT {n : Nat} (l : List Int) (k : Int) : evk (n + 2) (eT l) k = l.any fun x => k == x || (x == 11 && k == 12) := by
  unfold eT
  by_cases h : l.length = 1
  · rw [if_pos h]
    match l, h with
    | [x], _ => rw [show ([x] : List Int).headD 0 = x from rfl, ev_wk]; simp
  · rw [if_neg h]
    show (l.map wk).any (fun s => evk (n + 1) s k) = _
    rw [List.any_map]; rfl
theorem ev_row (X : Nat) {n : Nat} (k : Nat) (hk : k < 14) : evk (n + 2) (eT (mset (dropN X) 14)) k = (X.testBit k || (k == 12 && X.testBit 11)) := by
  rw [ev_eT, Bool.eq_iff_iff, mset_any]
  constructor
  · rintro ⟨j, h1, h2, h3⟩
    rw [drop_bit X j h1] at h2
    simp only [Bool.or_eq_true, Bool.and_eq_true, beq_iff_eq, Int.natCast_inj] at h3
    rcases h3 with h3 | ⟨h3, h4⟩
    · subst h3; simp only [Bool.and_eq_true] at h2; rw [h2.1]; rfl
    · have hj : j = 11 := by omega
      have hk' : k = 12 := by omega
      subst hj hk'
      simp only [Bool.and_eq_true] at h2
      rw [h2.1]; simp
  · intro h
    by_cases h12 : k = 12 ∧ X.testBit 11 = true
    · refine ⟨11, by omega, ?_, ?_⟩
      · rw [drop_bit X 11 (by omega), h12.2]; rfl
      · rw [h12.1]; rfl
    · have hb : X.testBit k = true := by
        simp only [Bool.or_eq_true, Bool.and_eq_true, beq_iff_eq] at h
        rcases h with h | h
        · exact h
        · exact absurd h h12
      refine ⟨k, hk, ?_, by simp⟩
      rw [drop_bit X k hk, hb]
      simp only [Bool.true_and, Bool.not_eq_true', Bool.and_eq_false_iff]
      by_cases hk12 : k = 12
      · right
        cases e : X.testBit 11 with
        | false => rfl
        | true => exact absurd ⟨hk12, e⟩ h12
      · left; simpa using hk12

theorem ev_pT (X : Nat) (k : Nat) (hk : k < 14) : evk 3 (pT X) k = X.testBit k := by
  unfold pT
  by_cases h0 : X = 0
  · rw [if_pos h0, h0, Nat.zero_testBit]
    show ([wa, wn 6 [wa]].all fun s => evk 2 s k) = false
    have e1 : evk 2 (wa : Wt 2) k = ((k : Int) != 0) := rfl
    have e2 : evk 2 (wn 6 [wa] : Wt 2) k = !((k : Int) != 0) := by
      show (!([wa].any fun s => evk 1 s k)) = _
      rw [show ([wa].any fun s => evk 1 s k) = (((k : Int) != 0) || false) from rfl, Bool.or_false]
    simp only [List.all_cons, List.all_nil, e1, e2]
    cases ((k : Int) != 0) <;> rfl
  · rw [if_neg h0]
    by_cases h1 : X / 2 ^ 11 % 2 = 1 ∧ ¬ X / 2 ^ 12 % 2 = 1
    · rw [if_pos h1]
      show ([eT (mset (dropN X) 14), wn 6 [wk 12]].all fun s => evk 2 s k) = _
      have e2 : evk 2 (wn 6 [wk 12] : Wt 2) k = !((k : Int) == 12) := by
        show (!([wk 12].any fun s => evk 1 s k)) = _
        rw [show ([wk 12].any fun s => evk 1 s k) = (((k : Int) == 12 || ((12 : Int) == 11 && (k : Int) == 12)) || false) from rfl]
        simp
      simp only [List.all_cons, List.all_nil, e2, ev_row X k hk, Bool.and_true]
      have b12 : X.testBit 12 = false := by
        cases e : X.testBit 12 with
        | false => rfl
        | true => exact absurd ((bit_iff X 12).2 e) h1.2
      by_cases hk12 : k = 12
      · subst hk12; rw [b12]; simp
      · have : ((k : Int) == 12) = false := by simp; omega
        rw [this]; simp [hk12]
    · rw [if_neg h1, ev_row X k hk]
      by_cases hk12 : k = 12
      · subst hk12
        cases e : X.testBit 11 with
        | false => simp
        | true =>
          have : X.testBit 12 = true := by
            by_cases h : X / 2 ^ 12 % 2 = 1
            · exact (bit_iff X 12).1 h
            · exact absurd ⟨(bit_iff X 11).2 e, h⟩ h1
          rw [this]; rfl
      · simp [hk12]
theorem kinds_pT (X : Nat) (h : X < 16384) : kset (evk 3 (pT X)) 14 = X := (kset_eq _ h fun k hk => (ev_pT X k hk).symm).symm

/-- The one form is valid. -/
theorem vw_wk (f n : Nat) (k left : Int) (h : 0 ≤ k ∧ k < 14) (hl : 0 < left) : vw (f + 1) (n + 1) (wk k) left = (true, left - 1) := by
  have ho : (wk k : Wt (n + 1)).ok = true := decide_eq_true ⟨h.1, h.2, rfl⟩
  simp only [vw]
  rw [if_neg (by rw [ho]; simp; omega)]
  rfl
theorem vwL_wk (f n : Nat) : ∀ (l : List Int) (left : Int), (∀ x ∈ l, 0 ≤ x ∧ x < 14) → (l.length : Int) ≤ left → vwL (fun t l => vw (f + 1) (n + 1) t l) (l.map wk) left = (true, left - l.length)
  | [], left, _, _ => by simp [vwL]
  | x :: l, left, hx, hl => by
    simp only [List.length_cons] at hl
    rw [List.map_cons, vwL_cons, vw_wk f n x left (hx x (by simp)) (by omega)]
    simp only [if_true]
    rw [vwL_wk f n l (left - 1) (fun y hy => hx y (by simp [hy])) (by omega)]
    simp only [List.length_cons, Prod.mk.injEq, true_and]; omega
theorem mset_in (M : Nat) : ∀ x ∈ mset M 14, 0 ≤ x ∧ x < 14 := fun x hx => by
  obtain ⟨k, rfl, h1, -⟩ := (mset_mem M 14 x).1 hx; omega
theorem drop_some (X : Nat) (h0 : X ≠ 0) (hX : X < 16384) : mset (dropN X) 14 ≠ [] := by
  have : ∃ k, k < 14 ∧ X.testBit k = true := by
    refine Classical.byContradiction fun hn => h0 (Nat.eq_of_testBit_eq fun k => ?_)
    rw [Nat.zero_testBit]
    by_cases hk : k < 14
    · cases e : X.testBit k with
      | false => rfl
      | true => exact absurd ⟨k, hk, e⟩ hn
    · exact Nat.testBit_lt_two_pow (Nat.lt_of_lt_of_le hX (Nat.pow_le_pow_right (n := 2) (by decide) (show 14 ≤ k by omega)))
  obtain ⟨k, hk, hb⟩ := this
  intro e
  by_cases h12 : k = 12 ∧ X.testBit 11 = true
  · have : (11 : Int) ∈ mset (dropN X) 14 := (mset_mem _ 14 11).2 ⟨11, rfl, by omega, by rw [drop_bit X 11 (by omega), h12.2]; rfl⟩
    rw [e] at this; cases this
  · have : (k : Int) ∈ mset (dropN X) 14 := (mset_mem _ 14 k).2 ⟨k, rfl, hk, by
      rw [drop_bit X k hk, hb]
      by_cases hk12 : k = 12
      · cases e : X.testBit 11 with
        | false => simp
        | true => exact absurd ⟨hk12, e⟩ h12
      · simp [hk12]⟩
    rw [e] at this; cases this
theorem vw_eT (f n : Nat) (l : List Int) (left : Int) (hl : l ≠ []) (hx : ∀ x ∈ l, 0 ≤ x ∧ x < 14) (hn : l.length ≤ 14) (h : 15 ≤ left) : (vw (f + 2) (n + 2) (eT l) left).1 = true ∧ left - 15 ≤ (vw (f + 2) (n + 2) (eT l) left).2 := by
  unfold eT
  by_cases h1 : l.length = 1
  · rw [if_pos h1]
    match l, h1, hx with
    | [x], _, hx => rw [show ([x] : List Int).headD 0 = x from rfl, vw_wk (f + 1) (n + 1) x left (hx x (by simp)) (by omega)]; exact ⟨rfl, by show left - 15 ≤ left - 1; omega⟩
  · rw [if_neg h1]
    have h2 : 2 ≤ l.length := by
      match l, hl, h1 with
      | [x], _, h1 => exact absurd rfl h1
      | x :: y :: l, _, _ => simp
    have ho : (wn 4 (l.map wk) : Wt (n + 2)).ok = true := decide_eq_true ⟨rfl, by show 2 ≤ (l.map wk).length; rw [List.length_map]; exact h2⟩
    simp only [vw]
    rw [if_neg (by rw [ho]; simp; omega)]
    show (vwL (fun t l => vw (f + 1) (n + 1) t l) (l.map wk) (left - 1)).1 = true ∧ left - 15 ≤ (vwL (fun t l => vw (f + 1) (n + 1) t l) (l.map wk) (left - 1)).2
    rw [vwL_wk f n l (left - 1) hx (by omega)]
    exact ⟨rfl, by show left - 15 ≤ left - 1 - l.length; omega⟩
theorem valid_pT (X : Nat) (hX : X < 16384) : (vw 128 3 (pT X) 16384).1 = true := by
  unfold pT
  by_cases h0 : X = 0
  · rw [if_pos h0]; decide
  · rw [if_neg h0]
    have hne := drop_some X h0 hX
    have hin := mset_in (dropN X)
    have hlen := mset_len (dropN X) 14
    by_cases h1 : X / 2 ^ 11 % 2 = 1 ∧ ¬ X / 2 ^ 12 % 2 = 1
    · rw [if_pos h1]
      show (if (16384 : Int) = 0 ∨ (wn 5 [eT (mset (dropN X) 14), wn 6 [wk 12]] : Wt 3).ok = false then ((false, 16384) : Bool × Int) else vwL (fun t l => vw 127 2 t l) [eT (mset (dropN X) 14), wn 6 [wk 12]] (16384 - 1)).1 = true
      rw [if_neg (by rw [show (wn 5 [eT (mset (dropN X) 14), wn 6 [wk 12]] : Wt 3).ok = true from rfl]; simp)]
      have e1 : (vw 127 2 (eT (mset (dropN X) 14)) (16384 - 1)).1 = true := (vw_eT 125 0 (mset (dropN X) 14) 16383 hne hin hlen (by omega)).1
      have e2 : (16383 : Int) - 15 ≤ (vw 127 2 (eT (mset (dropN X) 14)) (16384 - 1)).2 := (vw_eT 125 0 (mset (dropN X) 14) 16383 hne hin hlen (by omega)).2
      rw [vwL_cons, if_pos e1, vwL_cons]
      generalize (vw 127 2 (eT (mset (dropN X) 14)) (16384 - 1)).2 = L at e2 ⊢
      have ev : vw 127 2 (wn 6 [wk 12] : Wt 2) L = (true, L - 1 - 1) := by
        show (if L = 0 ∨ (wn 6 [wk 12] : Wt 2).ok = false then ((false, L) : Bool × Int) else vwL (fun t l => vw 126 1 t l) [wk 12] (L - 1)) = _
        rw [if_neg (by rw [show (wn 6 [wk 12] : Wt 2).ok = true from rfl]; simp; omega), vwL_cons, vw_wk 125 0 12 (L - 1) (by decide) (by omega)]
        rfl
      rw [ev]; rfl
    · rw [if_neg h1]
      exact (vw_eT 126 1 (mset (dropN X) 14) 16384 hne hin hlen (by omega)).1
end Go.Proofs.YtokiaolgdkikiaaGreat
