/- A slot's marks: whether it is mixed, and the least tick; plain lists, no condition but those that each theorem names. -/
import Derived.Test.YtignphkfknjllaaDoorWh
namespace Go.Proofs.YtignphkfknjllaaDoor

/-- What a slot's marks say. -/
def Mk (l : List Tm) (m : Bool) (s : Int) : Prop :=
  (m = false → l.Pairwise fun x y => x.a ≤ y.a) ∧ (m = true → l = [] ∨ s = 0 ∨ ((∀ t ∈ l, s ≤ (t.a : Int)) ∧ ∃ t ∈ l, (t.a : Int) = s))
theorem sorted_last {l : List Tm} {u : Tm} (h : l.Pairwise fun x y => x.a ≤ y.a) (hu : l.getLast? = some u) : ∀ x ∈ l, x.a ≤ u.a := by
  obtain ⟨p, rfl⟩ := List.getLast?_eq_some_iff.1 hu
  intro x hx
  rw [List.pairwise_append] at h
  rcases List.mem_append.1 hx with hx | hx
  · exact h.2.2 x hx u (by simp)
  · simp at hx; subst hx; exact Nat.le_refl _
theorem sorted_head {l : List Tm} {f : Tm} (h : l.Pairwise fun x y => x.a ≤ y.a) (hf : l.head? = some f) : ∀ x ∈ l, f.a ≤ x.a := by
  cases l with
  | nil => simp at hf
  | cons y r =>
    simp at hf
    subst hf
    rw [List.pairwise_cons] at h
    intro x hx
    rcases List.mem_cons.1 hx with rfl | hx
    · exact Nat.le_refl _
    · exact h.1 x hx
theorem Mk.put {l : List Tm} {m : Bool} {s : Int} (h : Mk l m s) (t : Tm) : Mk (l ++ [t]) (putm l t m s).1 (putm l t m s).2 := by
  cases l with
  | nil => simp [putm, Mk]
  | cons y r =>
    obtain ⟨u, hu⟩ : ∃ u, (y :: r).getLast? = some u := by
      cases hh : (y :: r).getLast? with
      | none => simp at hh
      | some u => exact ⟨u, rfl⟩
    have hum := List.mem_of_getLast? hu
    have hf : (y :: r).head? = some y := rfl
    generalize hl : y :: r = l at *
    have hy : y ∈ l := List.mem_of_head? hf
    have hne : l ≠ [] := by rw [← hl]; simp
    unfold putm
    rw [hf, hu]
    cases m with
    | true =>
      simp only [if_true]
      refine ⟨fun e => by simp at e, fun _ => .inr ?_⟩
      rcases h.2 rfl with h | h | ⟨h1, x, hx, h2⟩
      · exact absurd h hne
      · left; rw [h]; omega
      · right
        refine ⟨fun z hz => ?_, ?_⟩
        · rcases List.mem_append.1 hz with hz | hz
          · have := h1 z hz; omega
          · simp at hz; subst hz; omega
        · by_cases c : s ≤ t.a
          · exact ⟨x, by simp [hx], by omega⟩
          · exact ⟨t, by simp, by omega⟩
    | false =>
      have hs := h.1 rfl
      simp only [Bool.false_eq_true, if_false]
      by_cases c : t.a < u.a
      · rw [if_pos c]
        refine ⟨fun e => by simp at e, fun _ => .inr (.inr ⟨fun z hz => ?_, ?_⟩)⟩
        · rcases List.mem_append.1 hz with hz | hz
          · have := sorted_head hs hf z hz; simp; omega
          · simp at hz; subst hz; simp; omega
        · by_cases d : (y.a : Int) ≤ t.a
          · exact ⟨y, by simp [hy], by simp; omega⟩
          · exact ⟨t, by simp, by simp; omega⟩
      · rw [if_neg c]
        refine ⟨fun _ => ?_, fun e => by simp at e⟩
        rw [List.pairwise_append]
        refine ⟨hs, by simp, fun x hx z hz => ?_⟩
        simp at hz
        subst hz
        have := sorted_last hs hu x hx
        omega
/-- A mixed slot knows its least tick. -/
def St (l : List Tm) (m : Bool) (s : Int) : Prop := m = true → l = [] ∨ s ≠ 0
theorem St.put {l : List Tm} {m : Bool} {s : Int} (h : St l m s) (hm : Mk l m s) (t : Tm) (hp : ∀ x ∈ l, 0 < x.a) (ht : 0 < t.a) : St (l ++ [t]) (putm l t m s).1 (putm l t m s).2 := by
  intro hmx
  right
  cases l with
  | nil => simp [putm] at hmx
  | cons y r =>
    obtain ⟨u, hu⟩ : ∃ u, (y :: r).getLast? = some u := by
      cases hh : (y :: r).getLast? with
      | none => simp at hh
      | some u => exact ⟨u, rfl⟩
    have hf : (y :: r).head? = some y := rfl
    have hy := hp y (by simp)
    generalize hl : y :: r = l at *
    have hne : l ≠ [] := by rw [← hl]; simp
    unfold putm at hmx ⊢
    rw [hf, hu] at hmx ⊢
    cases m with
    | true =>
      simp only [if_true] at hmx ⊢
      rcases hm.2 rfl with c | c | ⟨_, x, hx, c⟩
      · exact absurd c hne
      · rcases h rfl with d | d
        · exact absurd d hne
        · exact absurd c d
      · have := hp x hx
        omega
    | false =>
      simp only [Bool.false_eq_true, if_false] at hmx ⊢
      by_cases c : t.a < u.a
      · rw [if_pos c]; simp; omega
      · rw [if_neg c] at hmx; simp at hmx
theorem Mk.leave {p r : List Tm} {t : Tm} {m : Bool} {s : Int} (h : Mk (p ++ t :: r) m s) : Mk (p ++ r) m (if (t.a : Int) = s then 0 else s) := by
  have hsub : (p ++ r).Sublist (p ++ t :: r) := List.Sublist.append (List.Sublist.refl p) (List.sublist_cons_self t r)
  refine ⟨fun e => (h.1 e).sublist hsub, fun e => ?_⟩
  by_cases c : (t.a : Int) = s
  · rw [if_pos c]; exact .inr (.inl rfl)
  · rw [if_neg c]
    rcases h.2 e with h | h | ⟨h1, x, hx, h2⟩
    · simp at h
    · exact .inr (.inl h)
    · refine .inr (.inr ⟨fun z hz => h1 z (hsub.subset hz), x, ?_, h2⟩)
      rcases List.mem_append.1 hx with hx | hx
      · simp [hx]
      · rcases List.mem_cons.1 hx with rfl | hx
        · exact absurd h2 c
        · simp [hx]
end Go.Proofs.YtignphkfknjllaaDoor
