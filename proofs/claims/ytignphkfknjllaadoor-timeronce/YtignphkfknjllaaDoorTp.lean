/- Ticks and the levels of a wheel: which level a tick lies at, and what becomes of it when time goes on; plain numbers, no condition but those that each theorem names. -/
namespace Go.Proofs.YtignphkfknjllaaDoor

/-- The level of a tick at a time. -/
def lev (n a : Nat) : Nat := ((a ^^^ n) ||| 1).log2 / 6
/-- Its slot there. -/
def slo (n a : Nat) : Nat := a / 64 ^ lev n a % 64
/-- The slot's number among all. -/
def plc (n a : Nat) : Nat := lev n a * 64 + slo n a

theorem pow64 (l : Nat) : 64 ^ l = 2 ^ (6 * l) := by rw [show (64 : Nat) = 2 ^ 6 by rfl, ← Nat.pow_mul]
theorem xor_lt (a n k : Nat) : (a ^^^ n) < 2 ^ k ↔ a / 2 ^ k = n / 2 ^ k := by
  constructor
  · intro h
    have h1 : (a ^^^ n) / 2 ^ k = 0 := Nat.div_eq_of_lt h
    rw [← Nat.shiftRight_eq_div_pow, Nat.shiftRight_xor_distrib, Nat.shiftRight_eq_div_pow, Nat.shiftRight_eq_div_pow] at h1
    have h2 := congrArg (· ^^^ (n / 2 ^ k)) h1
    simpa [Nat.xor_assoc] using h2
  · intro h
    have h1 : (a ^^^ n) / 2 ^ k = 0 := by
      rw [← Nat.shiftRight_eq_div_pow, Nat.shiftRight_xor_distrib, Nat.shiftRight_eq_div_pow, Nat.shiftRight_eq_div_pow, h, Nat.xor_self]
    exact (Nat.div_eq_zero_iff_lt (Nat.two_pow_pos k)).1 h1
theorem lev_le (n a l : Nat) : lev n a ≤ l ↔ a / 64 ^ (l + 1) = n / 64 ^ (l + 1) := by
  unfold lev
  rw [pow64, ← xor_lt]
  have hx : (a ^^^ n) ||| 1 ≠ 0 := by
    intro h
    have := Nat.right_le_or (n := a ^^^ n) (m := 1)
    omega
  rw [show ((a ^^^ n ||| 1).log2 / 6 ≤ l ↔ (a ^^^ n ||| 1).log2 < 6 * (l + 1)) by omega, Nat.log2_lt hx]
  constructor
  · intro h; exact Nat.lt_of_le_of_lt Nat.left_le_or h
  · intro h
    refine Nat.or_lt_two_pow h ?_
    exact Nat.lt_of_lt_of_le (by decide : 1 < 2 ^ 1) (Nat.pow_le_pow_right (by decide) (by omega))
theorem lev_eq (n a l : Nat) : lev n a = l ↔ a / 64 ^ (l + 1) = n / 64 ^ (l + 1) ∧ (l = 0 ∨ a / 64 ^ l ≠ n / 64 ^ l) := by
  have h1 := lev_le n a l
  cases l with
  | zero => simp; rw [← h1]; omega
  | succ l =>
    have h2 := lev_le n a l
    rw [← h1, ne_eq, ← h2]; omega
theorem up_of {a n k m : Nat} (h : a / 64 ^ k = n / 64 ^ k) (hm : k ≤ m) : a / 64 ^ m = n / 64 ^ m := by
  obtain ⟨d, rfl⟩ := Nat.exists_eq_add_of_le hm
  rw [Nat.pow_add, ← Nat.div_div_eq_div_mul, ← Nat.div_div_eq_div_mul, h]
theorem divS (a l : Nat) : a / 64 ^ (l + 1) = a / 64 ^ l / 64 := by rw [Nat.pow_succ, ← Nat.div_div_eq_div_mul]
theorem lev_lt7 {n a : Nat} (hn : n ≤ 1099511627776) (ha : a ≤ 1099511627776) : lev n a < 7 := by
  have : lev n a ≤ 6 := by
    rw [lev_le]
    rw [Nat.div_eq_of_lt (by omega), Nat.div_eq_of_lt (by omega)]
  omega
theorem slo_lt (n a : Nat) : slo n a < 64 := Nat.mod_lt _ (by decide)
theorem plc_lt {n a : Nat} (hn : n ≤ 1099511627776) (ha : a ≤ 1099511627776) : plc n a < 448 := by
  have := lev_lt7 hn ha
  have := slo_lt n a
  unfold plc; omega
theorem plc_div (n a : Nat) : plc n a / 64 = lev n a := by have := slo_lt n a; unfold plc; omega
theorem plc_mod (n a : Nat) : plc n a % 64 = slo n a := by have := slo_lt n a; unfold plc; omega

/-- The first tick of the slot l, s. -/
def beg (n l s : Nat) : Nat := n / 64 ^ (l + 1) * 64 ^ (l + 1) + s * 64 ^ l
/-- Of a slot in which a tick lies. -/
theorem beg_of (n a : Nat) : beg n (lev n a) (slo n a) = a / 64 ^ lev n a * 64 ^ lev n a := by
  obtain ⟨h1, _⟩ := (lev_eq n a (lev n a)).1 rfl
  unfold beg slo
  rw [← h1, divS, Nat.pow_succ]
  generalize 64 ^ lev n a = D
  generalize a / D = x
  rw [show x / 64 * (D * 64) = x / 64 * 64 * D by rw [Nat.mul_comm D, Nat.mul_assoc], ← Nat.add_mul]
  congr 1; omega
theorem beg_le (n a : Nat) : beg n (lev n a) (slo n a) ≤ a := by rw [beg_of]; exact Nat.div_mul_le_self _ _
/-- A tick ahead of which there is time lies in a slot ahead of which there is time. -/
theorem beg_gt {n a : Nat} (h : n < a) : n < beg n (lev n a) (slo n a) := by
  obtain ⟨h1, h2⟩ := (lev_eq n a (lev n a)).1 rfl
  rw [beg_of]
  rcases h2 with h2 | h2
  · rw [h2]; simpa using h
  · have h3 : n / 64 ^ lev n a ≤ a / 64 ^ lev n a := Nat.div_le_div_right (Nat.le_of_lt h)
    have h4 : n / 64 ^ lev n a < a / 64 ^ lev n a := by omega
    exact (Nat.div_lt_iff_lt_mul (Nat.pow_pos (by decide))).1 h4
theorem slo_gt {n a : Nat} (h : n < a) : n / 64 ^ lev n a % 64 < slo n a := by
  obtain ⟨h1, h2⟩ := (lev_eq n a (lev n a)).1 rfl
  unfold slo
  rw [divS, divS] at h1
  have h3 : n / 64 ^ lev n a ≤ a / 64 ^ lev n a := Nat.div_le_div_right (Nat.le_of_lt h)
  rcases h2 with h2 | h2
  · rw [h2] at h1 ⊢; simp at h1 ⊢; omega
  · omega
/-- Two ticks in one slot have the same first tick. -/
theorem beg_plc {n a b : Nat} (h : plc n a = plc n b) : lev n a = lev n b ∧ slo n a = slo n b := by
  have h1 := plc_div n a
  have h2 := plc_mod n a
  rw [h] at h1 h2
  rw [plc_div] at h1
  rw [plc_mod] at h2
  exact ⟨h1.symm, h2.symm⟩
/-- Ticks in slots further on are later. -/
theorem beg_lt {n a b : Nat} (hb : n < b) (h : plc n a < plc n b) : a < beg n (lev n b) (slo n b) := by
  have la := slo_lt n a
  have lb := slo_lt n b
  obtain ⟨p1, p2⟩ := (lev_eq n a (lev n a)).1 rfl
  obtain ⟨q1, q2⟩ := (lev_eq n b (lev n b)).1 rfl
  have hl : lev n a ≤ lev n b := by unfold plc at h; omega
  rw [beg_of]
  refine (Nat.div_lt_iff_lt_mul (Nat.pow_pos (by decide))).1 ?_
  have hb' : n / 64 ^ lev n b ≤ b / 64 ^ lev n b := Nat.div_le_div_right (Nat.le_of_lt hb)
  by_cases e : lev n a = lev n b
  · have hs : slo n a < slo n b := by unfold plc at h; omega
    unfold slo at hs
    rw [e] at hs p1
    rw [divS, divS] at p1 q1
    omega
  · have h3 : a / 64 ^ lev n b = n / 64 ^ lev n b := up_of p1 (by omega)
    rcases q2 with q2 | q2
    · omega
    · omega

/-- Time goes on to the first tick of a slot in which b lies: a tick in a slot further on stays there. -/
theorem stay_down {n a b : Nat} (hl : lev n b ≤ lev n a) (hne : plc n a ≠ plc n b) : lev (beg n (lev n b) (slo n b)) a = lev n a := by
  obtain ⟨p1, p2⟩ := (lev_eq n a (lev n a)).1 rfl
  obtain ⟨q1, q2⟩ := (lev_eq n b (lev n b)).1 rfl
  have hn' : beg n (lev n b) (slo n b) / 64 ^ lev n b = b / 64 ^ lev n b := by rw [beg_of, Nat.mul_div_cancel _ (Nat.pow_pos (by decide))]
  have hu : beg n (lev n b) (slo n b) / 64 ^ (lev n b + 1) = n / 64 ^ (lev n b + 1) := by rw [divS, hn', ← divS, q1]
  generalize beg n (lev n b) (slo n b) = n' at hn' hu
  rw [lev_eq]
  refine ⟨by rw [p1]; exact (up_of hu (by omega)).symm, ?_⟩
  by_cases e : lev n a = lev n b
  · rcases p2 with p2 | p2
    · exact .inl p2
    · right
      intro h
      apply hne
      unfold plc slo
      rw [e] at h ⊢
      rw [h, hn']
  · right
    rcases p2 with p2 | p2
    · omega
    · intro h; exact p2 (h.trans (up_of hu (by omega)))
theorem plc_of_lev {n n' a : Nat} (h : lev n' a = lev n a) : plc n' a = plc n a := by unfold plc slo; rw [h]
/-- A tick of that slot, if it is not the first one, comes to a lower level. -/
theorem goes_down {n a b : Nat} (h : plc n a = plc n b) (hn : beg n (lev n b) (slo n b) ≠ a) : lev (beg n (lev n b) (slo n b)) a < lev n b := by
  obtain ⟨e1, e2⟩ := beg_plc h
  have ha : beg n (lev n b) (slo n b) = a / 64 ^ lev n b * 64 ^ lev n b := by rw [← e1, ← e2]; exact beg_of n a
  rw [ha] at hn ⊢
  by_cases h0 : lev n b = 0
  · rw [h0] at hn; simp at hn
  · have : lev (a / 64 ^ lev n b * 64 ^ lev n b) a ≤ lev n b - 1 := by
      rw [lev_le, show lev n b - 1 + 1 = lev n b by omega, Nat.mul_div_cancel _ (Nat.pow_pos (by decide))]
    omega
theorem goes_other {n a b : Nat} (h : plc n a = plc n b) (hn : beg n (lev n b) (slo n b) ≠ a) : plc (beg n (lev n b) (slo n b)) a < plc n b ∧ plc (beg n (lev n b) (slo n b)) a / 64 < plc n b / 64 := by
  have h1 := goes_down h hn
  have h2 := slo_lt (beg n (lev n b) (slo n b)) a
  rw [plc_div, plc_div]
  refine ⟨?_, h1⟩
  unfold plc
  generalize lev (beg n (lev n b) (slo n b)) a = u at *
  omega
/-- Time goes on to a tick below the first one of all slots: all stay. -/
theorem stay_still {n a b T : Nat} (hn : n ≤ T) (hT : T < beg n (lev n b) (slo n b)) (hl : plc n b ≤ plc n a) : lev T a = lev n a := by
  obtain ⟨p1, p2⟩ := (lev_eq n a (lev n a)).1 rfl
  obtain ⟨q1, q2⟩ := (lev_eq n b (lev n b)).1 rfl
  have la := slo_lt n a
  have lb := slo_lt n b
  have hlv : lev n b ≤ lev n a := by unfold plc at hl; omega
  rw [beg_of] at hT
  have hTb : T / 64 ^ lev n b < b / 64 ^ lev n b := (Nat.div_lt_iff_lt_mul (Nat.pow_pos (by decide))).2 hT
  have hTn : n / 64 ^ lev n b ≤ T / 64 ^ lev n b := Nat.div_le_div_right hn
  have hu : T / 64 ^ (lev n b + 1) = n / 64 ^ (lev n b + 1) := by
    rw [divS, divS] at q1 ⊢; omega
  rw [lev_eq]
  refine ⟨by rw [p1]; exact (up_of hu (by omega)).symm, ?_⟩
  by_cases e : lev n a = lev n b
  · right
    have hs : slo n b ≤ slo n a := by unfold plc at hl; rw [e] at hl; omega
    unfold slo at hs
    rw [e] at hs p1 ⊢
    rw [divS, divS] at p1 q1
    omega
  · right
    rcases p2 with p2 | p2
    · omega
    · intro h; exact p2 (h.trans (up_of hu (by omega)))
end Go.Proofs.YtignphkfknjllaaDoor
