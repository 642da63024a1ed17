/- Orders of fewer demands, as lists; and slices of rows as lists of slices; no condition. -/
import Derived.Test.YtblpafmcnhhdpaaUf
namespace Go.Proofs.Ytblpafmcnhhdpaa
open Go.RowKit

/-- Each stands behind what must be closed ahead of it. -/
def Pre (A : List (List Int)) (acc : List Nat) : Prop := ∀ (p i : Nat), acc[p]? = some i → ∀ k ∈ (A[i]?).getD [], vd A.length i k = true → k.toNat ∈ acc.take p
theorem Pre.go {A : List (List Int)} {acc : List Nat} (h : Pre A acc) {i : Nat} (hl : lst A (mf acc) = some i) : Pre A (acc ++ [i]) := by
  obtain ⟨h1, h2⟩ := lst_is hl
  intro p j hp k hk hv
  by_cases hlt : p < acc.length
  · rw [List.getElem?_append_left hlt] at hp
    rw [List.take_append_of_le_length (by omega)]
    exact h p j hp k hk hv
  · have hpe : p = acc.length := by
      have := (List.getElem?_eq_some_iff.1 hp).1
      simp at this
      omega
    subst hpe
    simp only [List.getElem?_concat_length, Option.some.injEq] at hp
    subst hp
    rw [List.take_left]
    unfold fre wts at h2
    simp only [Bool.and_eq_true, Bool.not_eq_true', List.any_eq_false] at h2
    have h3 := h2.2 k hk
    simp only [not_and, hv, true_implies, Bool.not_eq_false] at h3
    simpa [mf] using h3
/-- The end of the way. -/
theorem ord_end (A : List (List Int)) : Wy A (ord A) ∧ lst A (mf (ord A)) = none ∧ Pre A (ord A) := by
  have key : ∀ m acc, Wy A acc → Pre A acc → (lft A.length acc).length ≤ m → Wy A (run A m acc) ∧ lst A (mf (run A m acc)) = none ∧ Pre A (run A m acc) := by
    intro m
    induction m with
    | zero =>
      intro acc h hp hl
      refine ⟨h, lst_none fun j hj => ?_, hp⟩
      have h0 : lft A.length acc = [] := List.eq_nil_of_length_eq_zero (by omega)
      unfold lft at h0
      rw [List.filter_eq_nil_iff] at h0
      have := h0 j (by simpa using hj)
      simp only [Bool.not_eq_true', Bool.not_eq_false] at this
      show (!mf acc j && !wts A (mf acc) j) = false
      rw [this]
      rfl
    | succ m ih =>
      intro acc h hp hl
      cases hn : lst A (mf acc) with
      | none => rw [run_stop hn]; exact ⟨h, hn, hp⟩
      | some i =>
        rw [run_go hn]
        obtain ⟨h1, h2⟩ := h.go hn
        exact ih _ h1 (hp.go hn) (by omega)
  exact key _ _ (Wy.nil A) (fun p i hp => by simp at hp) (by rw [lft_nil]; simp)
theorem ord_lt {A : List (List Int)} {i : Nat} (h : i ∈ ord A) : i < A.length := (ord_end A).1.lt i h
theorem ord_nodup (A : List (List Int)) : (ord A).Nodup := (ord_end A).1.nd
theorem ord_cyc_len (A : List (List Int)) : (ord A).length + (cyc A).length = A.length := (ord_end A).1.len
/-- What is not in the order waits for something that is not. -/
theorem not_ord {A : List (List Int)} {i : Nat} (hi : i < A.length) (h : i ∉ ord A) : ∃ k ∈ (A[i]?).getD [], vd A.length i k = true ∧ k.toNat ∉ ord A := by
  have h1 := lst_no (ord_end A).2.1 i hi
  unfold fre wts at h1
  simp only [mf, h, decide_false, Bool.not_false, Bool.true_and, Bool.not_eq_false'] at h1
  obtain ⟨k, hk, hv⟩ := List.any_eq_true.1 h1
  simp only [Bool.and_eq_true, Bool.not_eq_true', decide_eq_false_iff_not] at hv
  exact ⟨k, hk, hv.1, hv.2⟩
theorem ord_fewer {A B : List (List Int)} (hl : B.length = A.length) (hs : ∀ (i : Nat), ∀ k ∈ (B[i]?).getD [], k ∈ (A[i]?).getD []) : ∀ i ∈ ord A, i ∈ ord B := by
  have key : ∀ (p i : Nat), (ord A)[p]? = some i → i ∈ ord B := by
    intro p
    induction p using Nat.strongRecOn with
    | ind p ih =>
      intro i hp
      apply Classical.byContradiction
      intro hn
      obtain ⟨k, hk, hv, hkn⟩ := not_ord (A := B) (by rw [hl]; exact ord_lt (List.mem_of_getElem? hp)) hn
      rw [hl] at hv
      have h1 := (ord_end A).2.2 p i hp k (hs i k hk) hv
      obtain ⟨q, hq, e⟩ := List.mem_iff_getElem.1 h1
      rw [List.length_take] at hq
      rw [List.getElem_take] at e
      exact hkn (ih q (by omega) k.toNat (by rw [← e]; exact List.getElem?_eq_getElem (by omega)))
  intro i hi
  obtain ⟨p, hp⟩ := List.getElem?_of_mem hi
  exact key p i hp
theorem ord_free {A : List (List Int)} {k : Nat} (hk : k < A.length) (h : A[k]? = some []) : k ∈ ord A := by
  apply Classical.byContradiction
  intro hn
  obtain ⟨x, hx, -⟩ := not_ord hk hn
  rw [h] at hx
  simp at hx

/-- A slice of rows, its slices told. -/
theorem Rj.svs {w : World} {ad : Option Addr} {A : List (List Int)} (h : Rj w ad A) (h0 : A ≠ []) : ∃ (b o : Nat) (svs : List Value), ad = some ⟨b, o, none⟩ ∧ svs.length = A.length ∧ (∀ (j : Nat) sv, svs[j]? = some sv → w.cell? ⟨b, o + j, none⟩ = some sv) ∧ (∀ (j : Nat) sv l, svs[j]? = some sv → A[j]? = some l → Ri w sv l) := by
  rcases h with h | ⟨b, o, e, h⟩
  · exact absurd h h0
  · refine ⟨b, o, ?_⟩
    have key : ∀ (A : List (List Int)) (o : Nat), (∀ (j : Nat) l, A[j]? = some l → ∃ sv, w.cell? ⟨b, o + j, none⟩ = some sv ∧ Ri w sv l) → ∃ svs : List Value, svs.length = A.length ∧ (∀ (j : Nat) sv, svs[j]? = some sv → w.cell? ⟨b, o + j, none⟩ = some sv) ∧ (∀ (j : Nat) sv l, svs[j]? = some sv → A[j]? = some l → Ri w sv l) := by
      intro A
      induction A with
      | nil => intro o _; exact ⟨[], rfl, fun j sv h => by simp at h, fun j sv l h => by simp at h⟩
      | cons x r ih =>
        intro o h
        obtain ⟨sv, h1, h2⟩ := h 0 x rfl
        obtain ⟨svs, g1, g2, g3⟩ := ih (o + 1) (fun j l hj => by
          obtain ⟨sv, a, b⟩ := h (j + 1) l (by simpa using hj)
          exact ⟨sv, by rw [show o + 1 + j = o + (j + 1) by omega]; exact a, b⟩)
        refine ⟨sv :: svs, by simp [g1], fun j s hs => ?_, fun j s l hs hl => ?_⟩
        · cases j with
          | zero => simp at hs; subst hs; exact h1
          | succ j =>
            have := g2 j s (by simpa using hs)
            rwa [show o + 1 + j = o + (j + 1) by omega] at this
        · cases j with
          | zero => simp at hs hl; subst hs hl; exact h2
          | succ j => exact g3 j s l (by simpa using hs) (by simpa using hl)
    obtain ⟨svs, g1, g2, g3⟩ := key A o h
    exact ⟨svs, e, g1, g2, g3⟩
end Go.Proofs.Ytblpafmcnhhdpaa
