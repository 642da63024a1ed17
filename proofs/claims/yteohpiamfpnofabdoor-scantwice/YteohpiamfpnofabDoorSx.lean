/- The plain theory of scanning, further: what lies between tokens, and tokens' own bytes scanned again; no run of the model in this text. -/
import Derived.Test.YteohpiamfpnofabDoorSp
namespace Go.Proofs.YteohpiamfpnofabDoor

/-- Blanks and comments alone. -/
def Gapl (r : Bs) : Prop := ∀ p acc, ans r p acc = .inr acc
theorem gapl_nil : Gapl [] := fun _ _ => rfl

theorem tw_take (P : UInt8 → Bool) : ∀ (r : Bs) (m : Nat), (r.takeWhile P).length ≤ m → (r.take m).takeWhile P = r.takeWhile P
  | [], m, _ => by simp
  | x :: t, m, h => by
    rw [List.takeWhile_cons] at h ⊢
    cases m with
    | zero =>
      split at h
      · simp at h
      · rename_i hx; simp [hx]
    | succ m =>
      rw [List.take_succ_cons, List.takeWhile_cons]
      split
      · rename_i hx
        rw [if_pos hx] at h
        rw [tw_take P t m (by simp at h; omega)]
      · rfl

theorem cEnd_take : ∀ (r : Bs) (q m : Nat), cEnd r = some q → q ≤ m → cEnd (r.take m) = some q
  | [], q, m, h, _ => by simp [cEnd] at h
  | a :: t, q, m, h, hm => by
    have hq := cEnd_le _ _ h
    obtain ⟨m, rfl⟩ : ∃ k, m = k + 1 := ⟨m - 1, by omega⟩
    rw [List.take_succ_cons]
    unfold cEnd at h ⊢
    split at h
    · rename_i hc
      have hc2 : (t.take m).head? = some 47 := by
        cases t with
        | nil => simp at hc
        | cons x u =>
          obtain ⟨k, rfl⟩ : ∃ k, m = k + 1 := ⟨m - 1, by omega⟩
          simpa using hc.2
      rw [if_pos ⟨hc.1, hc2⟩]
      exact h
    · rename_i hc
      cases e : cEnd t with
      | none => simp [e] at h
      | some k =>
        obtain rfl : k + 1 = q := by simpa [e] using h
        have hk := cEnd_le _ _ e
        rw [cEnd_take t k m e (by omega), if_neg]
        · rfl
        · rintro ⟨h1, h2⟩
          apply hc
          refine ⟨h1, ?_⟩
          cases t with
          | nil => simp at h2
          | cons x u =>
            obtain ⟨k', rfl⟩ : ∃ k, m = k + 1 := ⟨m - 1, by omega⟩
            simpa using h2

theorem skip_take {r : Bs} {k m : Nat} (h : skip r = some (k + 1)) (hm : k + 1 ≤ m) : skip (r.take m) = some (k + 1) := by
  cases r with
  | nil => simp [skip] at h
  | cons b t =>
    obtain ⟨m, rfl⟩ : ∃ j, m = j + 1 := ⟨m - 1, by omega⟩
    rw [List.take_succ_cons]
    simp only [skip] at h ⊢
    split
    · rename_i hb; rw [if_pos hb] at h; exact h
    · rename_i hb
      rw [if_neg hb] at h
      split
      · rename_i h35
        rw [if_pos h35] at h
        have hl : lineN (b :: t) = k + 1 := by simpa using h
        have := tw_take (fun b => decide (b.toNat ≠ 10)) (b :: t) (m + 1) (by show lineN (b :: t) ≤ m + 1; omega)
        rw [List.take_succ_cons] at this
        unfold lineN
        rw [this]
        exact congrArg some hl
      · rename_i h35
        rw [if_neg h35] at h
        split at h
        · rename_i hc
          cases e : cEnd t.tail with
          | none => simp [e] at h
          | some q =>
            have hq : q + 2 = k + 1 := by simpa [e] using h
            have hq2 := cEnd_le _ _ e
            obtain ⟨m, rfl⟩ : ∃ j, m = j + 1 := ⟨m - 1, by omega⟩
            cases t with
            | nil => simp at hc
            | cons x u =>
              rw [List.take_succ_cons]
              have hc2 : b.toNat = 47 ∧ (x :: u.take m).head? = some 42 := ⟨hc.1, by simpa using hc.2⟩
              rw [if_pos hc2]
              show (cEnd (u.take m)).map (· + 2) = _
              rw [cEnd_take u q m (by simpa using e) (by omega)]
              simp; omega
        · simp at h

theorem gapl_skip {r : Bs} {k m : Nat} (h : skip r = some (k + 1)) (hm : k + 1 ≤ m) (hg : Gapl ((r.drop (k + 1)).take (m - (k + 1)))) : Gapl (r.take m) := fun p acc => by
  rw [ans_skip (skip_take h hm), List.drop_take]
  exact hg _ _

/-- Tokens of a text, what lies ahead of each and behind the last. -/
def Chain : Bs → Nat → List Tok → Prop
  | r, _, [] => Gapl r
  | r, p, t :: ts => ∃ g m, t.pos = p + g ∧ t.fin = p + g + m ∧ 0 < m ∧ g + m ≤ r.length ∧ Gapl (r.take g) ∧ skip (r.drop g) = some 0 ∧ one (r.drop g) = .inr (t.kind, m, t.num, t.text) ∧ Chain (r.drop (g + m)) (p + g + m) ts

theorem chain_skip {r : Bs} {k p : Nat} {ts : List Tok} (h : skip r = some (k + 1)) (hc : Chain (r.drop (k + 1)) (p + (k + 1)) ts) : Chain r p ts := by
  have hk := skip_le _ _ h
  cases ts with
  | nil =>
    intro q acc
    rw [ans_skip h]
    exact hc _ _
  | cons t ts =>
    obtain ⟨g, m, h1, h2, h3, h4, h5, h6, h7, h8⟩ := hc
    rw [List.length_drop] at h4
    rw [List.drop_drop] at h6 h7 h8
    refine ⟨k + 1 + g, m, by omega, by omega, h3, by omega, gapl_skip h (by omega) (by rw [show k + 1 + g - (k + 1) = g by omega]; exact h5), h6, h7, ?_⟩
    rw [show k + 1 + g + m = k + 1 + (g + m) by omega, show p + (k + 1 + g) + m = p + (k + 1) + g + m by omega]
    exact h8

theorem ans_chain : ∀ (f : Nat) (r : Bs) (p : Nat) (acc acc' : List Tok), r.length ≤ f → ans r p acc = .inr acc' → ∃ ts, acc' = acc ++ ts ∧ Chain r p ts ∧ (acc.length ≤ 16384 → acc'.length ≤ 16384) := by
  intro f
  induction f with
  | zero =>
    intro r p acc acc' hr h
    obtain rfl : r = [] := List.length_eq_zero_iff.1 (by omega)
    rw [ans_nil] at h
    cases h
    exact ⟨[], by simp, gapl_nil, id⟩
  | succ f ih =>
    intro r p acc acc' hr h
    by_cases h0 : r = []
    · subst h0
      rw [ans_nil] at h
      cases h
      exact ⟨[], by simp, gapl_nil, id⟩
    · cases e : skip r with
      | none => rw [ans_gap e] at h; cases h
      | some k =>
        cases k with
        | succ k =>
          have hk := skip_le _ _ e
          rw [ans_skip e] at h
          obtain ⟨ts, h1, h2, h3⟩ := ih _ _ _ _ (by simp; omega) h
          exact ⟨ts, h1, chain_skip e h2, h3⟩
        | zero =>
          cases e1 : one r with
          | inl x => rw [ans_bad h0 e e1] at h; cases h
          | inr qq4 =>
            obtain ⟨k, n, v, s⟩ := qq4
            have hn := one_len _ _ _ _ _ e1
            rw [ans_tok e e1] at h
            by_cases hf : acc.length = 16384
            · rw [if_pos hf] at h; cases h
            · rw [if_neg hf] at h
              obtain ⟨ts, h1, h2, h3⟩ := ih _ _ _ _ (by simp; omega) h
              refine ⟨⟨k, p, p + n, v, s⟩ :: ts, by rw [h1]; simp, ⟨0, n, rfl, rfl, hn.1, by omega, by simpa using gapl_nil, by simpa using e, by simpa using e1, ?_⟩, fun hl => h3 (by simp; omega)⟩
              simpa using h2

theorem ans_bad_le : ∀ (f : Nat) (r : Bs) (p : Nat) (acc : List Tok) (q e : Nat), r.length ≤ f → ans r p acc = .inl (q, e) → q ≤ p + r.length := by
  intro f
  induction f with
  | zero =>
    intro r p acc q e hr h
    obtain rfl : r = [] := List.length_eq_zero_iff.1 (by omega)
    rw [ans_nil] at h; cases h
  | succ f ih =>
    intro r p acc q e hr h
    by_cases h0 : r = []
    · subst h0; rw [ans_nil] at h; cases h
    · cases e0 : skip r with
      | none => rw [ans_gap e0] at h; cases h; omega
      | some k =>
        cases k with
        | succ k =>
          have hk := skip_le _ _ e0
          rw [ans_skip e0] at h
          have := ih _ _ _ _ _ (by simp; omega) h
          simp at this; omega
        | zero =>
          cases e1 : one r with
          | inl x => rw [ans_bad h0 e0 e1] at h; cases h; omega
          | inr qq4 =>
            obtain ⟨k, n, v, s⟩ := qq4
            have hn := one_len _ _ _ _ _ e1
            rw [ans_tok e0 e1] at h
            split at h
            · cases h; omega
            · have := ih _ _ _ _ _ (by simp; omega) h
              simp at this; omega
theorem scan_bad_le {l : Bs} {q e : Nat} (h : scan l = .inl (q, e)) : q ≤ l.length := by
  unfold scan at h
  split at h
  · cases h; omega
  · have := ans_bad_le _ _ _ _ _ _ (Nat.le_refl _) h; omega
theorem scan_good {l : Bs} {ts : List Tok} (h : scan l = .inr ts) : l.length ≤ 65536 ∧ Chain l 0 ts ∧ ts.length ≤ 16384 := by
  unfold scan at h
  split at h
  · cases h
  · obtain ⟨ts', h1, h2, h3⟩ := ans_chain _ _ _ _ _ (Nat.le_refl _) h
    rw [List.nil_append] at h1
    subst h1
    exact ⟨by omega, h2, h3 (by simp)⟩
theorem gapl_scan {l : Bs} (h : Gapl l) (hl : l.length ≤ 65536) : scan l = .inr [] := by
  unfold scan
  rw [if_neg (by omega)]
  exact h _ _
end Go.Proofs.YteohpiamfpnofabDoor
