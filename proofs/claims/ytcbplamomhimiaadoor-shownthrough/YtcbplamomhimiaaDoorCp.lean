/- Sets of capabilities as numbers, bit by bit; no condition but those that each theorem names. -/
import Derived.Laws.Entries
namespace Go.Proofs.YtcbplamomhimiaaDoor

/-- x without y, within 32 bits. -/
def andN (x y : Nat) : Nat := x &&& (4294967295 ^^^ y)
theorem lt_bits {x n : Nat} (h : x < 2 ^ n) {i : Nat} (hi : x.testBit i = true) : i < n := by
  rcases Nat.lt_or_ge i n with h1 | h1
  · exact h1
  · have : x < 2 ^ i := Nat.lt_of_lt_of_le h (Nat.pow_le_pow_right (by decide) h1)
    rw [Nat.testBit_lt_two_pow this] at hi; cases hi
theorem bit_andN (x y : Nat) (hx : x < 4294967296) (i : Nat) : (andN x y).testBit i = (x.testBit i && !y.testBit i) := by
  unfold andN
  rw [Nat.testBit_and, Nat.testBit_xor, show (4294967295 : Nat) = 2 ^ 32 - 1 by decide, Nat.testBit_two_pow_sub_one]
  cases hb : x.testBit i with
  | false => rfl
  | true => have := lt_bits (n := 32) hx hb; simp [this]
theorem andN_lt (x y : Nat) (hx : x < 4294967296) : andN x y < 4294967296 := Nat.lt_of_le_of_lt Nat.and_le_left hx
theorem bit_low (c i : Nat) : (c &&& 2047).testBit i = (c.testBit i && decide (i < 11)) := by
  rw [Nat.testBit_and, show (2047 : Nat) = 2 ^ 11 - 1 by decide, Nat.testBit_two_pow_sub_one]
theorem low_lt (c : Nat) : c &&& 2047 < 2048 := Nat.lt_of_le_of_lt Nat.and_le_right (by decide)
theorem has_bit (c k : Nat) : (c &&& 2 ^ k = 2 ^ k) ↔ c.testBit k = true := by
  constructor
  · intro e
    have := congrArg (fun z => Nat.testBit z k) e
    simp only [Nat.testBit_and, Nat.testBit_two_pow_self, Bool.and_true] at this
    exact this
  · intro h
    refine Nat.eq_of_testBit_eq fun i => ?_
    rw [Nat.testBit_and, Nat.testBit_two_pow]
    by_cases e : k = i
    · subst e; simp [h]
    · simp [e]

/-- One round of Fix, one of Grow: with p only if q. -/
def fst (c p q : Nat) : Nat := if c &&& 2 ^ q = 2 ^ q then c else andN c (2 ^ p)
def gst (c p q : Nat) : Nat := if c &&& 2 ^ p = 2 ^ p then c ||| 2 ^ q else c
theorem bit_fst (c p q i : Nat) (hc : c < 4294967296) : (fst c p q).testBit i = (c.testBit i && (decide (i ≠ p) || c.testBit q)) := by
  unfold fst
  cases h : c.testBit q with
  | true => rw [if_pos ((has_bit c q).2 h)]; simp
  | false =>
    rw [if_neg (fun e => by rw [(has_bit c q).1 e] at h; cases h), bit_andN _ _ hc, Nat.testBit_two_pow]
    by_cases e : p = i
    · subst e; simp
    · have e' : i ≠ p := fun h => e h.symm
      simp [e, e']
theorem fst_lt (c p q : Nat) (hc : c < 4294967296) : fst c p q < 4294967296 := by unfold fst; split; exact hc; exact andN_lt _ _ hc
theorem bit_gst (c p q i : Nat) : (gst c p q).testBit i = (c.testBit i || (decide (i = q) && c.testBit p)) := by
  unfold gst
  cases h : c.testBit p with
  | true =>
    rw [if_pos ((has_bit c p).2 h), Nat.testBit_or, Nat.testBit_two_pow]
    by_cases e : q = i
    · subst e; simp
    · have e' : i ≠ q := fun h => e h.symm
      simp [e, e']
  | false => rw [if_neg (fun e => by rw [(has_bit c p).1 e] at h; cases h)]; simp

def fixS (c : Nat) : Nat := fst (fst (fst (fst (c &&& 2047) 2 0) 7 6) 3 9) 5 4
def groS (c : Nat) : Nat := gst (gst (gst (gst (c &&& 2047) 2 0) 7 6) 3 9) 5 4
theorem bit_fix (c i : Nat) : (fixS c).testBit i = (c.testBit i && decide (i < 11) && (decide (i ≠ 2) || c.testBit 0) && (decide (i ≠ 7) || c.testBit 6) && (decide (i ≠ 3) || c.testBit 9) && (decide (i ≠ 5) || c.testBit 4)) := by
  have h0 : c &&& 2047 < 4294967296 := Nat.lt_trans (low_lt c) (by decide)
  have h1 := fst_lt _ 2 0 h0
  have h2 := fst_lt _ 7 6 h1
  have h3 := fst_lt _ 3 9 h2
  unfold fixS
  rw [bit_fst _ _ _ _ h3, bit_fst _ _ _ _ h2, bit_fst _ _ _ _ h1, bit_fst _ _ _ _ h0, bit_low, bit_low, bit_fst _ _ _ 6 h0, bit_low, bit_fst _ _ _ 9 h1, bit_fst _ _ _ 9 h0, bit_low, bit_fst _ _ _ 4 h2, bit_fst _ _ _ 4 h1, bit_fst _ _ _ 4 h0, bit_low]
  simp [show Nat.testBit 2047 4 = true by decide]
theorem bit_gro (c i : Nat) : (groS c).testBit i = ((c.testBit i && decide (i < 11)) || (decide (i = 0) && c.testBit 2) || (decide (i = 6) && c.testBit 7) || (decide (i = 9) && c.testBit 3) || (decide (i = 4) && c.testBit 5)) := by
  unfold groS
  rw [bit_gst, bit_gst, bit_gst, bit_gst, bit_low, bit_low, bit_gst _ _ _ 7, bit_low, bit_gst _ _ _ 3, bit_gst _ _ _ 3, bit_low, bit_gst _ _ _ 5, bit_gst _ _ _ 5, bit_gst _ _ _ 5, bit_low]
  simp [show Nat.testBit 2047 5 = true by decide]
theorem lt_of_bits {x n : Nat} (h : ∀ i, x.testBit i = true → i < n) : x < 2 ^ n := by
  refine Nat.lt_pow_two_of_testBit x fun i hi => ?_
  cases hb : x.testBit i with
  | false => rfl
  | true => have := h i hb; omega
theorem fix_lt (c : Nat) : fixS c < 2048 := lt_of_bits (n := 11) fun i h => by rw [bit_fix] at h; simp at h; exact h.1.1.1.1.2
theorem gro_lt (c : Nat) : groS c < 2048 := lt_of_bits (n := 11) fun i h => by
  rw [bit_gro] at h; simp at h; omega

/-- A set within another. -/
def subS (x c : Nat) : Prop := ∀ i, x.testBit i = true → c.testBit i = true
theorem andN_zero (x c : Nat) (hx : x < 4294967296) : andN x c = 0 ↔ subS x c := by
  constructor
  · intro h i hi
    have := bit_andN x c hx i
    rw [h, Nat.zero_testBit, hi] at this
    simpa using this.symm
  · intro h
    refine Nat.eq_of_testBit_eq fun i => ?_
    rw [bit_andN x c hx, Nat.zero_testBit]
    cases hb : x.testBit i with
    | false => rfl
    | true => rw [h i hb]; rfl
theorem sub_ext {x y : Nat} (h1 : subS x y) (h2 : subS y x) : x = y := Nat.eq_of_testBit_eq fun i => by
  cases hx : x.testBit i with
  | true => exact (h1 i hx).symm
  | false =>
    cases hy : y.testBit i with
    | false => rfl
    | true => rw [h2 i hy] at hx; cases hx

/-- A proper set. -/
def prop (x : Nat) : Bool := (!x.testBit 2 || x.testBit 0) && (!x.testBit 7 || x.testBit 6) && (!x.testBit 3 || x.testBit 9) && (!x.testBit 5 || x.testBit 4)
theorem prop_iff (x : Nat) : prop x = true ↔ (x.testBit 2 = true → x.testBit 0 = true) ∧ (x.testBit 7 = true → x.testBit 6 = true) ∧ (x.testBit 3 = true → x.testBit 9 = true) ∧ (x.testBit 5 = true → x.testBit 4 = true) := by
  unfold prop
  cases x.testBit 2 <;> cases x.testBit 0 <;> cases x.testBit 7 <;> cases x.testBit 6 <;> cases x.testBit 3 <;> cases x.testBit 9 <;> cases x.testBit 5 <;> cases x.testBit 4 <;> decide
theorem fix_bits (c i : Nat) : (fixS c).testBit i = true ↔ c.testBit i = true ∧ i < 11 ∧ (i = 2 → c.testBit 0 = true) ∧ (i = 7 → c.testBit 6 = true) ∧ (i = 3 → c.testBit 9 = true) ∧ (i = 5 → c.testBit 4 = true) := by
  rw [bit_fix]; simp only [Bool.and_eq_true, Bool.or_eq_true, decide_eq_true_eq]
  constructor
  · rintro ⟨⟨⟨⟨⟨h1, h2⟩, h3⟩, h4⟩, h5⟩, h6⟩
    exact ⟨h1, h2, fun e => h3.resolve_left (fun h => h e), fun e => h4.resolve_left (fun h => h e), fun e => h5.resolve_left (fun h => h e), fun e => h6.resolve_left (fun h => h e)⟩
  · rintro ⟨h1, h2, h3, h4, h5, h6⟩
    exact ⟨⟨⟨⟨⟨h1, h2⟩, (Classical.em (i = 2)).elim (fun e => .inr (h3 e)) .inl⟩, (Classical.em (i = 7)).elim (fun e => .inr (h4 e)) .inl⟩, (Classical.em (i = 3)).elim (fun e => .inr (h5 e)) .inl⟩, (Classical.em (i = 5)).elim (fun e => .inr (h6 e)) .inl⟩
theorem gro_bits (c i : Nat) : (groS c).testBit i = true ↔ (c.testBit i = true ∧ i < 11) ∨ (i = 0 ∧ c.testBit 2 = true) ∨ (i = 6 ∧ c.testBit 7 = true) ∨ (i = 9 ∧ c.testBit 3 = true) ∨ (i = 4 ∧ c.testBit 5 = true) := by
  rw [bit_gro]; simp only [Bool.and_eq_true, Bool.or_eq_true, decide_eq_true_eq, or_assoc]

theorem fix_prop (c : Nat) : prop (fixS c) = true := by
  rw [prop_iff, fix_bits, fix_bits, fix_bits, fix_bits, fix_bits, fix_bits, fix_bits, fix_bits]
  refine ⟨fun h => ?_, fun h => ?_, fun h => ?_, fun h => ?_⟩
  · exact ⟨h.2.2.1 rfl, by omega, by omega, by omega, by omega, by omega⟩
  · exact ⟨h.2.2.2.1 rfl, by omega, by omega, by omega, by omega, by omega⟩
  · exact ⟨h.2.2.2.2.1 rfl, by omega, by omega, by omega, by omega, by omega⟩
  · exact ⟨h.2.2.2.2.2 rfl, by omega, by omega, by omega, by omega, by omega⟩
theorem fix_sub (c : Nat) : subS (fixS c) c := fun i h => ((fix_bits c i).1 h).1
theorem fix_max {c x : Nat} (hx : x < 2048) (hs : subS x c) (hp : prop x = true) : subS x (fixS c) := fun i h => by
  obtain ⟨p1, p2, p3, p4⟩ := (prop_iff x).1 hp
  exact (fix_bits c i).2 ⟨hs i h, lt_bits (n := 11) hx h, fun e => hs _ (p1 (e ▸ h)), fun e => hs _ (p2 (e ▸ h)), fun e => hs _ (p3 (e ▸ h)), fun e => hs _ (p4 (e ▸ h))⟩
theorem gro_prop (c : Nat) : prop (groS c) = true := by
  rw [prop_iff, gro_bits, gro_bits, gro_bits, gro_bits, gro_bits, gro_bits, gro_bits, gro_bits]
  refine ⟨fun h => ?_, fun h => ?_, fun h => ?_, fun h => ?_⟩
  · exact .inr (.inl ⟨rfl, h.elim (fun h => h.1) (fun h => by omega)⟩)
  · exact .inr (.inr (.inl ⟨rfl, h.elim (fun h => h.1) (fun h => by omega)⟩))
  · exact .inr (.inr (.inr (.inl ⟨rfl, h.elim (fun h => h.1) (fun h => by omega)⟩)))
  · exact .inr (.inr (.inr (.inr ⟨rfl, h.elim (fun h => h.1) (fun h => by omega)⟩)))
theorem gro_sub (c : Nat) : subS (c &&& 2047) (groS c) := fun i h => by
  rw [bit_low] at h; simp at h
  exact (gro_bits c i).2 (.inl h)
theorem gro_min {c x : Nat} (hs : subS (c &&& 2047) x) (hp : prop x = true) : subS (groS c) x := fun i h => by
  obtain ⟨p1, p2, p3, p4⟩ := (prop_iff x).1 hp
  have hs' : ∀ k, k < 11 → c.testBit k = true → x.testBit k = true := fun k hk hb => hs k (by rw [bit_low, hb]; simp [hk])
  rcases (gro_bits c i).1 h with ⟨h1, h2⟩ | ⟨rfl, h1⟩ | ⟨rfl, h1⟩ | ⟨rfl, h1⟩ | ⟨rfl, h1⟩
  · exact hs' i h2 h1
  · exact p1 (hs' 2 (by decide) h1)
  · exact p2 (hs' 7 (by decide) h1)
  · exact p3 (hs' 3 (by decide) h1)
  · exact p4 (hs' 5 (by decide) h1)

/-- The document's Fix: all proper sets within c, up to n, together. -/
def rfix (c : Nat) : Nat → Nat
  | 0 => 0
  | n + 1 => if andN n c = 0 ∧ prop n = true then rfix c n ||| n else rfix c n
def rgro (c : Nat) : Nat → Nat
  | 0 => 2047
  | n + 1 => if andN (c &&& 2047) n = 0 ∧ prop n = true then rgro c n &&& n else rgro c n
theorem rfix_lt (c : Nat) : ∀ n, n ≤ 2048 → rfix c n < 2048
  | 0, _ => by show 0 < 2048; decide
  | n + 1, h => by
    have ih := rfix_lt c n (by omega)
    unfold rfix
    split
    · exact Nat.or_lt_two_pow (n := 11) ih (by show n < 2048; omega)
    · exact ih
theorem rgro_lt (c : Nat) : ∀ n, rgro c n < 2048
  | 0 => by show 2047 < 2048; decide
  | n + 1 => by
    have ih := rgro_lt c n
    unfold rgro
    split
    · exact Nat.lt_of_le_of_lt Nat.and_le_left ih
    · exact ih
theorem rfix_bits (c i : Nat) : ∀ n, (rfix c n).testBit i = true ↔ ∃ x, x < n ∧ andN x c = 0 ∧ prop x = true ∧ x.testBit i = true
  | 0 => by simp [rfix]
  | n + 1 => by
    have ih := rfix_bits c i n
    unfold rfix
    split
    · rename_i h
      rw [Nat.testBit_or, Bool.or_eq_true, ih]
      constructor
      · rintro (⟨x, h1, h2⟩ | h1)
        · exact ⟨x, by omega, h2⟩
        · exact ⟨n, by omega, h.1, h.2, h1⟩
      · rintro ⟨x, h1, h2, h3, h4⟩
        rcases Nat.lt_or_ge x n with h5 | h5
        · exact .inl ⟨x, h5, h2, h3, h4⟩
        · obtain rfl : x = n := by omega
          exact .inr h4
    · rename_i h
      rw [ih]
      constructor
      · rintro ⟨x, h1, h2⟩; exact ⟨x, by omega, h2⟩
      · rintro ⟨x, h1, h2, h3, h4⟩
        rcases Nat.lt_or_ge x n with h5 | h5
        · exact ⟨x, h5, h2, h3, h4⟩
        · obtain rfl : x = n := by omega
          exact absurd ⟨h2, h3⟩ h
theorem rgro_bits (c i : Nat) : ∀ n, (rgro c n).testBit i = true ↔ i < 11 ∧ ∀ x, x < n → andN (c &&& 2047) x = 0 → prop x = true → x.testBit i = true
  | 0 => by
    show (2047 : Nat).testBit i = true ↔ _
    rw [show (2047 : Nat) = 2 ^ 11 - 1 by decide, Nat.testBit_two_pow_sub_one]
    simp
  | n + 1 => by
    have ih := rgro_bits c i n
    unfold rgro
    split
    · rename_i h
      rw [Nat.testBit_and, Bool.and_eq_true, ih]
      constructor
      · rintro ⟨⟨h1, h2⟩, h3⟩
        refine ⟨h1, fun x hx h4 h5 => ?_⟩
        rcases Nat.lt_or_ge x n with h6 | h6
        · exact h2 x h6 h4 h5
        · obtain rfl : x = n := by omega
          exact h3
      · rintro ⟨h1, h2⟩
        exact ⟨⟨h1, fun x hx => h2 x (by omega)⟩, h2 n (by omega) h.1 h.2⟩
    · rename_i h
      rw [ih]
      constructor
      · rintro ⟨h1, h2⟩
        refine ⟨h1, fun x hx h4 h5 => ?_⟩
        rcases Nat.lt_or_ge x n with h6 | h6
        · exact h2 x h6 h4 h5
        · obtain rfl : x = n := by omega
          exact absurd ⟨h4, h5⟩ h
      · rintro ⟨h1, h2⟩
        exact ⟨h1, fun x hx => h2 x (by omega)⟩
theorem rfix_eq (c : Nat) : rfix c 2048 = fixS c := by
  refine sub_ext (fun i h => ?_) (fun i h => ?_)
  · obtain ⟨x, h1, h2, h3, h4⟩ := (rfix_bits c i 2048).1 h
    exact fix_max h1 ((andN_zero x c (by omega)).1 h2) h3 i h4
  · have hl := fix_lt c
    exact (rfix_bits c i 2048).2 ⟨fixS c, hl, (andN_zero _ c (by omega)).2 (fix_sub c), fix_prop c, h⟩
theorem rgro_eq (c : Nat) : rgro c 2048 = groS c := by
  have hl := low_lt c
  refine sub_ext (fun i h => ?_) (fun i h => ?_)
  · obtain ⟨h1, h2⟩ := (rgro_bits c i 2048).1 h
    exact h2 _ (gro_lt c) ((andN_zero _ _ (by omega)).2 (gro_sub c)) (gro_prop c)
  · exact (rgro_bits c i 2048).2 ⟨lt_bits (n := 11) (gro_lt c) h, fun x _ h2 h3 => gro_min ((andN_zero _ x (by omega)).1 h2) h3 i h⟩

/-! ### what follows -/
theorem low_of {c : Nat} (h : c < 2048) : c &&& 2047 = c := Nat.eq_of_testBit_eq fun i => by
  rw [bit_low]
  cases hb : c.testBit i with
  | false => rfl
  | true => simp [lt_bits (n := 11) h hb]
theorem sub_refl (x : Nat) : subS x x := fun _ h => h
theorem fix_fixed {c : Nat} (hc : c < 2048) (hp : prop c = true) : fixS c = c := sub_ext (fix_sub c) (fix_max hc (sub_refl c) hp)
theorem gro_fixed {c : Nat} (hc : c < 2048) (hp : prop c = true) : groS c = c := sub_ext (gro_min (by rw [low_of hc]; exact sub_refl c) hp) (by have := gro_sub c; rwa [low_of hc] at this)
theorem fix_mono {c d : Nat} (h : subS c d) : subS (fixS c) (fixS d) := fix_max (fix_lt c) (fun i hi => h i (fix_sub c i hi)) (fix_prop c)
theorem gro_mono {c d : Nat} (h : subS c d) : subS (groS c) (groS d) := gro_min (fun i hi => gro_sub d i (by rw [bit_low] at hi ⊢; simp at hi ⊢; exact ⟨h i hi.1, hi.2⟩)) (gro_prop d)
theorem fix_iff {c : Nat} (hc : c < 2048) : fixS c = c ↔ groS c = c := ⟨fun h => gro_fixed hc (h ▸ fix_prop c), fun h => fix_fixed hc (h ▸ gro_prop c)⟩

/-! ### the machine's words -/
theorem u32_bits (x y : Nat) (hx : x < 4294967296) (hy : y < 4294967296) : bits .and .u32 (x : Int) (y : Int) = ((x &&& y : Nat) : Int) ∧ bits .or .u32 (x : Int) (y : Int) = ((x ||| y : Nat) : Int) ∧ bits .andNot .u32 (x : Int) (y : Int) = ((andN x y : Nat) : Int) := by
  have w : ∀ z : Nat, z < 4294967296 → IntKind.u32.wrap (z : Int) = (z : Int) := fun z hz => by
    show ((z : Int) % 4294967296) = z
    omega
  have hor : x ||| y < 4294967296 := Nat.or_lt_two_pow (n := 32) hx hy
  have hand : x &&& y < 4294967296 := Nat.lt_of_le_of_lt Nat.and_le_left hx
  have ex : (BitVec.ofInt 32 (x : Int)).toNat = x := by rw [BitVec.ofInt_natCast, BitVec.toNat_ofNat]; exact Nat.mod_eq_of_lt hx
  have ey : (BitVec.ofInt 32 (y : Int)).toNat = y := by rw [BitVec.ofInt_natCast, BitVec.toNat_ofNat]; exact Nat.mod_eq_of_lt hy
  refine ⟨?_, ?_, ?_⟩
  · show IntKind.u32.wrap (((BitVec.ofInt 32 (x : Int) &&& BitVec.ofInt 32 (y : Int)).toNat : Nat) : Int) = _
    rw [BitVec.toNat_and, ex, ey, w _ hand]
  · show IntKind.u32.wrap (((BitVec.ofInt 32 (x : Int) ||| BitVec.ofInt 32 (y : Int)).toNat : Nat) : Int) = _
    rw [BitVec.toNat_or, ex, ey, w _ hor]
  · show IntKind.u32.wrap (((BitVec.ofInt 32 (x : Int) &&& ~~~ BitVec.ofInt 32 (y : Int)).toNat : Nat) : Int) = _
    have : (BitVec.ofInt 32 (x : Int) &&& ~~~ BitVec.ofInt 32 (y : Int)).toNat = andN x y := by
      refine Nat.eq_of_testBit_eq fun i => ?_
      rw [bit_andN x y hx, BitVec.toNat_and, Nat.testBit_and, ex, BitVec.testBit_toNat, BitVec.getLsbD_not, ← BitVec.testBit_toNat, ey]
      cases hb : x.testBit i with
      | false => rfl
      | true => have := lt_bits (n := 32) hx hb; simp [this]
    rw [this, w _ (andN_lt x y hx)]
end Go.Proofs.YtcbplamomhimiaaDoor
