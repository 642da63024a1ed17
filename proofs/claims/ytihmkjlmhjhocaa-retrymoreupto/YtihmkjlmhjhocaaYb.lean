/- How long is waited: the package's answer and the document's, each by one plain function; the condition: numbers within their bounds. -/
import Derived.Test.YtihmkjlmhjhocaaBase
namespace Go.Proofs.Ytihmkjlmhjhocaa
open Go.RowKit

/-- Not below nothing. -/
def nn (x : Int) : Int := if x < 0 then 0 else x
/-- How long is waited. -/
def wt (k b m : Int) : Int := min (nn b * 2 ^ min k.toNat 64) (nn m)
theorem w64 (n : Int) (h : -9223372036854775808 ≤ n ∧ n ≤ 9223372036854775807) : wrap64 n = n := by unfold wrap64; omega
theorem nn_pos (x : Int) : 0 ≤ nn x := by unfold nn; split <;> omega
theorem p2 (n : Nat) : (0 : Int) < 2 ^ n := Int.pow_pos (by decide)
theorem wt_hi (k b m : Int) (h : nn m / 2 ^ min k.toNat 64 < nn b) : wt k b m = nn m := by
  have := (Int.ediv_lt_iff_lt_mul (p2 (min k.toNat 64))).1 h
  unfold wt; omega
theorem wt_lo (k b m : Int) (hm : m < 9223372036854775808) (h : nn b ≤ nn m / 2 ^ min k.toNat 64) : wt k b m = wrap64 (nn b * 2 ^ min k.toNat 64) := by
  have h1 := (Int.le_ediv_iff_mul_le (p2 (min k.toNat 64))).1 h
  have h2 : 0 ≤ nn b * 2 ^ min k.toNat 64 := Int.mul_nonneg (nn_pos b) (Int.le_of_lt (p2 _))
  have h3 : nn m < 9223372036854775808 := by unfold nn; split <;> omega
  have h4 : wt k b m = nn b * 2 ^ min k.toNat 64 := by unfold wt; omega
  rw [h4]
  generalize nn b * 2 ^ min k.toNat 64 = x at h1 h2 h4 ⊢
  unfold wrap64
  omega

set_option maxRecDepth 100000 in
set_option maxHeartbeats 1000000 in
theorem wait_any (k b m : Int) (hm : m < 9223372036854775808) (w : World) : Calls Try.prog 15 #[.int .i64 k, .int .i64 b, .int .i64 m] w fun e w' => e = .returned (.int .i64 (wt k b m)) ∧ Below w.heap.size w w' := by
  have H1 := Lib.hid (wt_hi k b m)
  have H2 := Lib.hid (wt_lo k b m hm)
  clear hm
  go_enter Try.func15, Try.ntmps15
  go_wp2
  all_goals go_ret
  all_goals (refine ⟨?_, Below.refl _ _⟩)
  all_goals have H1 := H1.out
  all_goals have H2 := H2.out
  all_goals unfold nn at H1 H2
  all_goals first
    | (have e := H1 (by assumption); rw [e]; simp [*])
    | (have e := H2 (by assumption); rw [e]; simp [*])
    | (have e0 : k.toNat = 0 := by omega
       rw [e0] at H1 H2; simp only [Nat.zero_min, Int.pow_zero, Int.ediv_one, Int.mul_one] at H1 H2
       first
       | (have e := H1 (by assumption); rw [e]; simp [*])
       | (have e := H2 (by assumption); rw [e]; simp [*]))
  all_goals first
    | (intro; omega)
    | rw [if_neg (by omega)]

/-- After i rounds. -/
structure Wi (k b m x : Int) (i : Nat) : Prop where
  e : x = nn b * 2 ^ i
  le : i = 0 ∨ (x ≤ nn m ∧ 0 < nn b ∧ (i : Int) ≤ k)
  nb : i < 64
theorem wi0 (k b m : Int) : Wi k b m (nn b) 0 := ⟨by simp, .inl rfl, by omega⟩
theorem pow_le' {i j : Nat} (h : i ≤ j) : (2 : Int) ^ i ≤ 2 ^ j := by exact_mod_cast Nat.pow_le_pow_right (by decide) h
theorem wi_step {k b m x : Int} {i : Nat} (h : Wi k b m x i) (hm : m < 9223372036854775808) (h1 : (i : Int) < k) (h2 : 0 < x) (h3 : x ≤ nn m / 2) : Wi k b m (2 * x) (i + 1) := by
  have hb : 0 < nn b := by
    have := nn_pos b
    rcases Int.lt_or_eq_of_le this with h0 | h0
    · exact h0
    · have := h.e; rw [← h0] at this; simp at this; omega
  have e : 2 * x = nn b * 2 ^ (i + 1) := by rw [h.e, Int.pow_succ]; generalize (2 : Int) ^ i = y; rw [Int.mul_comm 2, Int.mul_assoc]
  refine ⟨e, .inr ⟨by omega, hb, by omega⟩, ?_⟩
  have hnm : nn m < 9223372036854775808 := by unfold nn; split <;> omega
  by_cases hi : i + 1 < 64
  · exact hi
  · exfalso
    have h4 : (2 : Int) ^ 64 ≤ 2 ^ (i + 1) := pow_le' (by omega)
    have h5 : (1 : Int) * 2 ^ (i + 1) ≤ nn b * 2 ^ (i + 1) := Int.mul_le_mul_of_nonneg_right (by omega) (Int.le_of_lt (p2 _))
    have h6 : (2 : Int) ^ 64 = 18446744073709551616 := by decide
    omega
/-- Where the rounds are over. -/
theorem wi_end {k b m x : Int} {i : Nat} (h : Wi k b m x i) (hm : m < 9223372036854775808) (he : k ≤ i ∨ x ≤ 0 ∨ nn m ≤ x) : min x (nn m) = wt k b m := by
  have hnm : nn m < 9223372036854775808 := by unfold nn; split <;> omega
  have hm0 := nn_pos m
  have hb0 := nn_pos b
  unfold wt
  rcases Int.lt_or_eq_of_le hb0 with hb | hb
  · have hx : 0 < x := by rw [h.e]; exact Int.mul_pos hb (p2 _)
    by_cases hk : k ≤ i
    · have : k.toNat = i ∨ (i = 0 ∧ k.toNat = 0) := by
        rcases h.le with h0 | h0
        · right; omega
        · left; omega
      have hi := h.nb
      have e : min k.toNat 64 = i := by omega
      rw [e, ← h.e]
    · have h2 : nn m ≤ x := by omega
      have h3 : i ≤ min k.toNat 64 := by have := h.nb; omega
      have h4 : nn b * 2 ^ i ≤ nn b * 2 ^ min k.toNat 64 := Int.mul_le_mul_of_nonneg_left (pow_le' h3) hb0
      have := h.e
      omega
  · have := h.e
    rw [← hb] at this ⊢
    simp at this ⊢
    omega
theorem wi_ret {k b m x : Int} {i : Nat} (h : Wi k b m x i) (h1 : (i : Int) < k) (h3 : nn m / 2 < x) : nn m = wt k b m := by
  have hb0 := nn_pos b
  unfold wt
  have h4 : i + 1 ≤ min k.toNat 64 := by have := h.nb; omega
  have h5 : nn b * 2 ^ (i + 1) ≤ nn b * 2 ^ min k.toNat 64 := Int.mul_le_mul_of_nonneg_left (pow_le' h4) hb0
  have e : 2 * x = nn b * 2 ^ (i + 1) := by rw [h.e, Int.pow_succ]; generalize (2 : Int) ^ i = y; rw [Int.mul_comm 2, Int.mul_assoc]
  omega

set_option maxRecDepth 100000 in
set_option maxHeartbeats 1000000 in
theorem rwait_any (k b m : Int) (hm : m < 9223372036854775808) (w : World) : Calls Try.prog 16 #[.int .i64 k, .int .i64 b, .int .i64 m] w fun e w' => e = .returned (.int .i64 (wt k b m)) ∧ Below w.heap.size w w' := by
  have W0 := Lib.hid (wi0 k b m)
  go_enter Try.func16, Try.ntmps16
  go_wp2
  case inl.inl =>
    have eb : nn b = 0 := by unfold nn; rw [if_pos (by assumption)]
    have em : nn m = 0 := by unfold nn; rw [if_pos (by assumption)]
    go_loopw [7, 9] (fun sb si wr => ∃ (x : Int) (i : Nat), sb = .int .i64 x ∧ si = .int .i64 i ∧ Hid (Wi k b m x i) ∧ wr = w) (fun sb _ _ => (9223372036854775808 - intOf sb).toNat)
    case atStart => exact ⟨nn b, 0, by rw [eb], rfl, W0, rfl⟩
    case round =>
      obtain ⟨x, i, rfl, rfl, hI, rfl⟩ := hrel
      have hI' := hI.out
      have HE := Lib.hid (wi_end hI' hm)
      have HS := Lib.hid (wi_step hI' hm)
      have HR := Lib.hid (wi_ret hI')
      have hi := hI'.nb
      have hle := hI'.le
      rw [em] at HE HS HR hle
      clear hI hI'
      have HM : Hid (0 < 9223372036854775808) := Lib.hid (by omega)
      have HL := Lib.hid hle
      clear hle hi
      by_cases h1 : (i : Int) < k
      · by_cases h2 : 0 < x
        · by_cases h3 : x < 0
          · exact absurd h3 (by omega)
          · go_wp2
            all_goals go_ret
            all_goals refine ⟨?_, Below.refl _ _⟩
            all_goals have hw := HE.out (.inr (.inr (by omega)))
            all_goals rw [← hw]
            all_goals simp
            all_goals omega
        · go_wp2
          all_goals go_ret
          all_goals refine ⟨?_, Below.refl _ _⟩
          all_goals have hw := HE.out (.inr (.inl (by omega)))
          all_goals rw [← hw]
          all_goals simp
          all_goals omega
      · go_wp2
        all_goals go_ret
        all_goals refine ⟨?_, Below.refl _ _⟩
        all_goals have hw := HE.out (.inl (by omega))
        all_goals rw [← hw]
        all_goals simp
        all_goals omega
  case inl.inr =>
    have eb : nn b = 0 := by unfold nn; rw [if_pos (by assumption)]
    have em : nn m = m := by unfold nn; rw [if_neg (by omega)]
    go_loopw [7, 9] (fun sb si wr => ∃ (x : Int) (i : Nat), sb = .int .i64 x ∧ si = .int .i64 i ∧ Hid (Wi k b m x i) ∧ wr = w) (fun sb _ _ => (9223372036854775808 - intOf sb).toNat)
    case atStart => exact ⟨nn b, 0, by rw [eb], rfl, W0, rfl⟩
    case round =>
      obtain ⟨x, i, rfl, rfl, hI, rfl⟩ := hrel
      have hI' := hI.out
      have HE := Lib.hid (wi_end hI' hm)
      have HS := Lib.hid (wi_step hI' hm)
      have HR := Lib.hid (wi_ret hI')
      have hi := hI'.nb
      have hle := hI'.le
      rw [em] at HE HS HR hle
      clear hI hI'
      have HM : Hid (m < 9223372036854775808) := Lib.hid (by omega)
      have HL := Lib.hid hle
      clear hle
      have HI2 := Lib.hid hi
      clear hi
      by_cases h1 : (i : Int) < k
      · by_cases h2 : 0 < x
        · by_cases h3 : x < m
          · by_cases h4 : m / 2 < x
            · go_wp2
              go_ret
              refine ⟨?_, Below.refl _ _⟩
              have := HR.out h1 h4
              simp [← this]
            · go_wp2
              have hM := HM.out
              have hi := HI2.out
              refine ⟨⟨2 * x, i + 1, ?_, ?_, Lib.hid (HS.out h1 h2 (by omega)), trivial⟩, ?_⟩
              · rfl
              · rw [w64 _ (by omega)]; simp
              · simp [intOf]; omega
          · go_wp2
            all_goals go_ret
            all_goals refine ⟨?_, Below.refl _ _⟩
            all_goals have hw := HE.out (.inr (.inr (by omega)))
            all_goals rw [← hw]
            all_goals simp
            all_goals omega
        · go_wp2
          all_goals go_ret
          all_goals refine ⟨?_, Below.refl _ _⟩
          all_goals have hw := HE.out (.inr (.inl (by omega)))
          all_goals rw [← hw]
          all_goals simp
          all_goals omega
      · go_wp2
        all_goals go_ret
        all_goals refine ⟨?_, Below.refl _ _⟩
        all_goals have hw := HE.out (.inl (by omega))
        all_goals rw [← hw]
        all_goals simp
        all_goals omega
  case inr.inl =>
    have eb : nn b = b := by unfold nn; rw [if_neg (by omega)]
    have em : nn m = 0 := by unfold nn; rw [if_pos (by assumption)]
    go_loopw [7, 9] (fun sb si wr => ∃ (x : Int) (i : Nat), sb = .int .i64 x ∧ si = .int .i64 i ∧ Hid (Wi k b m x i) ∧ wr = w) (fun sb _ _ => (9223372036854775808 - intOf sb).toNat)
    case atStart => exact ⟨nn b, 0, by rw [eb], rfl, W0, rfl⟩
    case round =>
      obtain ⟨x, i, rfl, rfl, hI, rfl⟩ := hrel
      have hI' := hI.out
      have HE := Lib.hid (wi_end hI' hm)
      have HS := Lib.hid (wi_step hI' hm)
      have HR := Lib.hid (wi_ret hI')
      have hi := hI'.nb
      have hle := hI'.le
      rw [em] at HE HS HR hle
      clear hI hI'
      have HM : Hid (0 < 9223372036854775808) := Lib.hid (by omega)
      have HL := Lib.hid hle
      clear hle hi
      by_cases h1 : (i : Int) < k
      · by_cases h2 : 0 < x
        · by_cases h3 : x < 0
          · exact absurd h3 (by omega)
          · go_wp2
            all_goals go_ret
            all_goals refine ⟨?_, Below.refl _ _⟩
            all_goals have hw := HE.out (.inr (.inr (by omega)))
            all_goals rw [← hw]
            all_goals simp
            all_goals omega
        · go_wp2
          all_goals go_ret
          all_goals refine ⟨?_, Below.refl _ _⟩
          all_goals have hw := HE.out (.inr (.inl (by omega)))
          all_goals rw [← hw]
          all_goals simp
          all_goals omega
      · go_wp2
        all_goals go_ret
        all_goals refine ⟨?_, Below.refl _ _⟩
        all_goals have hw := HE.out (.inl (by omega))
        all_goals rw [← hw]
        all_goals simp
        all_goals omega
  case inr.inr =>
    have eb : nn b = b := by unfold nn; rw [if_neg (by omega)]
    have em : nn m = m := by unfold nn; rw [if_neg (by omega)]
    go_loopw [7, 9] (fun sb si wr => ∃ (x : Int) (i : Nat), sb = .int .i64 x ∧ si = .int .i64 i ∧ Hid (Wi k b m x i) ∧ wr = w) (fun sb _ _ => (9223372036854775808 - intOf sb).toNat)
    case atStart => exact ⟨nn b, 0, by rw [eb], rfl, W0, rfl⟩
    case round =>
      obtain ⟨x, i, rfl, rfl, hI, rfl⟩ := hrel
      have hI' := hI.out
      have HE := Lib.hid (wi_end hI' hm)
      have HS := Lib.hid (wi_step hI' hm)
      have HR := Lib.hid (wi_ret hI')
      have hi := hI'.nb
      have hle := hI'.le
      rw [em] at HE HS HR hle
      clear hI hI'
      have HM : Hid (m < 9223372036854775808) := Lib.hid (by omega)
      have HL := Lib.hid hle
      clear hle
      have HI2 := Lib.hid hi
      clear hi
      by_cases h1 : (i : Int) < k
      · by_cases h2 : 0 < x
        · by_cases h3 : x < m
          · by_cases h4 : m / 2 < x
            · go_wp2
              go_ret
              refine ⟨?_, Below.refl _ _⟩
              have := HR.out h1 h4
              simp [← this]
            · go_wp2
              have hM := HM.out
              have hi := HI2.out
              refine ⟨⟨2 * x, i + 1, ?_, ?_, Lib.hid (HS.out h1 h2 (by omega)), trivial⟩, ?_⟩
              · rfl
              · rw [w64 _ (by omega)]; simp
              · simp [intOf]; omega
          · go_wp2
            all_goals go_ret
            all_goals refine ⟨?_, Below.refl _ _⟩
            all_goals have hw := HE.out (.inr (.inr (by omega)))
            all_goals rw [← hw]
            all_goals simp
            all_goals omega
        · go_wp2
          all_goals go_ret
          all_goals refine ⟨?_, Below.refl _ _⟩
          all_goals have hw := HE.out (.inr (.inl (by omega)))
          all_goals rw [← hw]
          all_goals simp
          all_goals omega
      · go_wp2
        all_goals go_ret
        all_goals refine ⟨?_, Below.refl _ _⟩
        all_goals have hw := HE.out (.inl (by omega))
        all_goals rw [← hw]
        all_goals simp
        all_goals omega
end Go.Proofs.Ytihmkjlmhjhocaa
