/- The document's own answer: a number's digits, one by one (plain). -/
import Derived.Test.YtbkakdmkabhcnaaDoorRf
namespace Go.Proofs.YtbkakdmkabhcnaaDoor

theorem pum_over {acc : Nat} {c : UInt8} (r : Bs) (hd : dig c = true) (h : (18446744073709551615 - (c.toNat - 48)) / 10 < acc) : Lib.parseUintM (2 ^ 64 - 1) acc (c :: r) = .range := by
  unfold dig at hd
  simp only [decide_eq_true_eq] at hd
  unfold Lib.parseUintM
  rw [if_pos hd]
  split
  · rfl
  · rw [if_pos (by omega)]
theorem pum_step {acc : Nat} {c : UInt8} (r : Bs) (hd : dig c = true) (h : ¬ (18446744073709551615 - (c.toNat - 48)) / 10 < acc) : Lib.parseUintM (2 ^ 64 - 1) acc (c :: r) = Lib.parseUintM (2 ^ 64 - 1) (acc * 10 + (c.toNat - 48)) r ∧ acc * 10 + (c.toNat - 48) ≤ 18446744073709551615 := by
  unfold dig at hd
  simp only [decide_eq_true_eq] at hd
  refine ⟨?_, by omega⟩
  conv => lhs; unfold Lib.parseUintM
  rw [if_pos hd, if_neg (by omega), if_neg (by omega)]
/-- What the digits passed so far say: bad: more than 64 bits. -/
def Ns (D rest : Bs) (num : Nat) (bad : Bool) : Prop := match bad with
  | true => Lib.parseUintM (2 ^ 64 - 1) 0 D = .range
  | false => num ≤ 18446744073709551615 ∧ Lib.parseUintM (2 ^ 64 - 1) 0 D = Lib.parseUintM (2 ^ 64 - 1) num rest
theorem ns_start (D : Bs) : Ns D D 0 false := ⟨Nat.zero_le _, rfl⟩
theorem ns_bad {D rest rest' : Bs} {num num' : Nat} (h : Ns D rest num true) : Ns D rest' num' true := h
theorem ns_over {D rest : Bs} {c : UInt8} {num num' : Nat} {bad : Bool} (h : Ns D (c :: rest) num bad) (hd : dig c = true) (hc : (18446744073709551615 - (c.toNat - 48)) / 10 < num) : Ns D rest num' true := by
  cases bad with
  | true => exact h
  | false => exact h.2.trans (pum_over rest hd hc)
theorem ns_step {D rest : Bs} {c : UInt8} {num : Nat} (h : Ns D (c :: rest) num false) (hd : dig c = true) (hc : ¬ (18446744073709551615 - (c.toNat - 48)) / 10 < num) : Ns D rest (num * 10 + (c.toNat - 48)) false ∧ num * 10 + (c.toNat - 48) ≤ 18446744073709551615 := by
  obtain ⟨e, hl⟩ := pum_step rest hd hc
  exact ⟨⟨hl, h.2.trans e⟩, hl⟩
theorem ns_end {D : Bs} {num : Nat} {bad : Bool} (h : Ns D [] num bad) (hD : D ≠ []) : numO D = if bad then .inl 64 else .inr (2, D.length, num, []) := by
  unfold numO Lib.parseUintB
  rw [if_neg hD]
  cases bad with
  | true => rw [show Lib.parseUintM (2 ^ 64 - 1) 0 D = .range from h]; rfl
  | false => rw [h.2]; rfl
end Go.Proofs.YtbkakdmkabhcnaaDoor
