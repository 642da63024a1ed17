/- The law ScanBetween at every text; what is asked of the world: the bytes lie in memory, and the package's variables as their text lays them. -/
import Derived.Test.YteohpiamfpnofabDoorSq
import Derived.Test.YteohpiamfpnofabDoorSx
namespace Go.Proofs.YteohpiamfpnofabDoor
open Go.RowKit Go.Maps

theorem ans_err : ∀ (f : Nat) (r : Bs) (p : Nat) (acc : List Tok) (q e : Nat), r.length ≤ f → ans r p acc = .inl (q, e) → 0 < e ∧ e < 100 := by
  intro f
  induction f with
  | zero =>
    intro r p acc q e hr h
    obtain rfl : r = [] := List.length_eq_zero_iff.1 (by omega)
    rw [ans_nil] at h; cases h
  | succ f ih =>
    intro r p acc q e hr h
    by_cases h0 : r = []
    · subst h0; rw [ans_nil] at h; cases h
    · cases e0 : skip r with
      | none => rw [ans_gap e0] at h; cases h; omega
      | some k =>
        cases k with
        | succ k =>
          have hk := skip_le _ _ e0
          rw [ans_skip e0] at h
          exact ih _ _ _ _ _ (by simp; omega) h
        | zero =>
          cases e1 : one r with
          | inl x =>
            rw [ans_bad h0 e0 e1] at h
            have := one_bad e1
            simp only [Sum.inl.injEq, Prod.mk.injEq] at h
            obtain ⟨h1, h2⟩ := h
            split at h2 <;> omega
          | inr qq4 =>
            obtain ⟨k, n, v, s⟩ := qq4
            have hn := one_len _ _ _ _ _ e1
            rw [ans_tok e0 e1] at h
            split at h
            · cases h; omega
            · exact ih _ _ _ _ _ (by simp; omega) h
theorem scan_err {l : Bs} {q e : Nat} (h : scan l = .inl (q, e)) : 0 < e ∧ e < 100 := by
  unfold scan at h
  split at h
  · cases h; omega
  · exact ans_err _ _ _ _ _ _ (Nat.le_refl _) h

/-- No tokens: the slice. -/
theorem toks_nil {W : World} {B : Nat} {v : Value} (h : Toks W B v []) : ∃ a c, v = .slice a 0 c := by
  obtain ⟨_, ⟨rfl, _⟩ | ⟨g, cap, cur, rfl, _⟩⟩ := h
  · exact ⟨_, _, rfl⟩
  · exact ⟨_, _, rfl⟩
theorem toks_slice {W : World} {B : Nat} {v : Value} {l : List Tok} (h : Toks W B v l) : ∃ a c, v = .slice a l.length c ∧ (l ≠ [] → ∃ g, a = some ⟨g, 0, none⟩) := by
  obtain ⟨_, ⟨rfl, h2⟩ | ⟨g, cap, cur, rfl, _⟩⟩ := h
  · have := List.length_eq_zero_iff.1 h2
    subst this
    exact ⟨_, _, rfl, fun h => absurd rfl h⟩
  · exact ⟨_, _, rfl, fun _ => ⟨g, rfl⟩⟩

theorem slice_run (a : Option Addr) (l : Bs) (c p e : Nat) (hc : l.length ≤ c) (hA : l = [] ∨ ∃ b o, a = some ⟨b, o, none⟩) (h1 : p ≤ e) (h2 : e ≤ l.length) :
    ∃ A, (∀ W, (Instr.slice 22 (.slice a l.length c) (some (.int .i64 (p : Nat))) (some (.int .i64 (e : Nat))) none).run Tryd.prog W = .ok (.slice A (e - p) (c - p)) W) ∧ (e = p ∨ ∃ b o, a = some ⟨b, o, none⟩ ∧ A = some ⟨b, o + p, none⟩) := by
  have ht' : Tryd.prog.underlying 22 = some (.slice (Tryd.prog.elem 22)) := by kernel_rfl
  have he : Tryd.prog.elem 22 = 5 := by kernel_rfl
  have hz : ∀ w, (Go.sizeOf 5).run Tryd.prog w = .ok 1 w := fun w => by kernel_rfl
  refine ⟨if c = p then a else a.map (·.add p), fun W => ?_, ?_⟩
  · rw [run_slice_lh W 22 _ _ _ ht' .i64 .i64 _ _ (by omega) (by omega) (by omega), he, hz]
    simp [Result.andThen, sliced]
  · by_cases hep : e = p
    · exact .inl hep
    · right
      rcases hA with rfl | ⟨b, o, rfl⟩
      · simp at h2; omega
      · refine ⟨b, o, rfl, ?_⟩
        rw [if_neg (by omega)]
        simp [WideShapes.add_plain]

end Go.Proofs.YteohpiamfpnofabDoor
