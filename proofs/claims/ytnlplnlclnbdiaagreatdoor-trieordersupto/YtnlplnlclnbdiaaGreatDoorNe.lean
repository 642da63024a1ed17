/- How many levels stand in a tree, counted filter by filter; no condition but those that each theorem names. -/
import Derived.Test.YtnlplnlclnbdiaaGreatDoorNd
namespace Go.Proofs.YtnlplnlclnbdiaaGreatDoor
open Go.RowKit Tp Go.Maps Go.Shelf

theorem com_pre : ∀ (q l m : List Bs), q <+: l → q <+: m → q.length ≤ com l m
  | [], _, _, _, _ => Nat.zero_le _
  | a :: q, [], _, h, _ => by simp at h
  | a :: q, _ :: _, [], _, h => by simp at h
  | a :: q, b :: l, c :: m, h1, h2 => by
    rw [List.cons_prefix_cons] at h1 h2
    obtain ⟨rfl, h1⟩ := h1
    obtain ⟨rfl, h2⟩ := h2
    have := com_pre q l m h1 h2
    simp only [com, if_true, List.length_cons]; omega
theorem com_take : ∀ (l m : List Bs), l.take (com l m) <+: m
  | [], m => by simp [com]
  | a :: l, [] => by simp [com]
  | a :: l, b :: m => by
    by_cases h : a = b
    · subst h; simp only [com, if_true, List.take_succ_cons]; rw [List.cons_prefix_cons]; exact ⟨rfl, com_take l m⟩
    · simp [com, h]

/-- The most that a row has in common with any of these. -/
def had (l : List Bs) (ms : List (List Bs)) : Nat := ms.foldl (fun h m => max h (com l m)) 0
theorem had_snoc (l : List Bs) (ms : List (List Bs)) (m : List Bs) : had l (ms ++ [m]) = max (had l ms) (com l m) := by unfold had; rw [List.foldl_append]; rfl
theorem had_spec (l : List Bs) (ms : List (List Bs)) : (∀ m ∈ ms, com l m ≤ had l ms) ∧ (had l ms = 0 ∨ ∃ m ∈ ms, had l ms = com l m) ∧ had l ms ≤ l.length := by
  have key : ∀ (ms : List (List Bs)) (h : Nat), h ≤ l.length → h ≤ ms.foldl (fun h m => max h (com l m)) h ∧ (∀ m ∈ ms, com l m ≤ ms.foldl (fun h m => max h (com l m)) h) ∧ (ms.foldl (fun h m => max h (com l m)) h = h ∨ ∃ m ∈ ms, ms.foldl (fun h m => max h (com l m)) h = com l m) ∧ ms.foldl (fun h m => max h (com l m)) h ≤ l.length := by
    intro ms
    induction ms with
    | nil => intro h hh; simp [hh]
    | cons m ms ih =>
      intro h hh
      have hc := (com_spec l m).1
      obtain ⟨h1, h2, h3, h4⟩ := ih (max h (com l m)) (by omega)
      simp only [List.foldl_cons]
      refine ⟨by omega, fun x hx => ?_, ?_, h4⟩
      · rcases List.mem_cons.1 hx with rfl | hx
        · omega
        · exact h2 x hx
      · rcases h3 with h3 | ⟨x, hx, h3⟩
        · by_cases hm : com l m ≤ h
          · left; omega
          · right; exact ⟨m, by simp, by omega⟩
        · right; exact ⟨x, by simp [hx], h3⟩
  obtain ⟨_, h2, h3, h4⟩ := key ms 0 (Nat.zero_le _)
  exact ⟨h2, h3, h4⟩

/-- The levels of these rows, each once. -/
def Lvl (ms : List (List Bs)) (ps : List Pth) : Prop := ps.Nodup ∧ ∀ q, q ∈ ps ↔ q ≠ [] ∧ ∃ m ∈ ms, q <+: m
theorem Lvl.nil : Lvl [] [] := ⟨List.nodup_nil, by simp⟩
theorem Lvl.snoc {ms : List (List Bs)} {ps : List Pth} (h : Lvl ms ps) (l : List Bs) : ∃ ps', Lvl (ms ++ [l]) ps' ∧ ps'.length = ps.length + (l.length - had l ms) := by
  obtain ⟨s1, s2, s3⟩ := had_spec l ms
  generalize had l ms = H at s1 s2 s3 ⊢
  refine ⟨ps ++ (List.range (l.length - H)).map (fun m => l.take (H + m + 1)), ⟨?_, fun q => ?_⟩, by simp⟩
  · rw [List.nodup_append]
    refine ⟨h.1, ?_, fun a ha b hb e => ?_⟩
    · have : ∀ n, n ≤ l.length - H → ((List.range n).map (fun m => l.take (H + m + 1))).Nodup := by
        intro n
        induction n with
        | zero => simp
        | succ n ih =>
          intro hn
          rw [List.range_succ, List.map_append, List.nodup_append]
          refine ⟨ih (by omega), by simp, fun a ha b hb e => ?_⟩
          obtain ⟨i, hi, rfl⟩ := List.mem_map.1 ha
          simp only [List.map_cons, List.map_nil, List.mem_singleton] at hb
          subst hb
          have := congrArg List.length e
          rw [List.length_take, List.length_take] at this
          have := List.mem_range.1 hi
          omega
      exact this _ (Nat.le_refl _)
    · obtain ⟨i, hi, rfl⟩ := List.mem_map.1 hb
      have hi := List.mem_range.1 hi
      subst e
      obtain ⟨_, m, hm, hp⟩ := (h.2 _).1 ha
      have h1 := com_pre _ l m (List.take_prefix _ _) hp
      have h2 := s1 m hm
      rw [List.length_take] at h1
      omega
  · rw [List.mem_append, h.2 q]
    constructor
    · rintro (⟨h1, m, h2, h3⟩ | h1)
      · exact ⟨h1, m, by simp [h2], h3⟩
      · obtain ⟨i, hi, rfl⟩ := List.mem_map.1 h1
        have hi := List.mem_range.1 hi
        refine ⟨fun e => ?_, l, by simp, List.take_prefix _ _⟩
        have := congrArg List.length e
        rw [List.length_take, List.length_nil] at this; omega
    · rintro ⟨h1, m, h2, h3⟩
      rcases List.mem_append.1 h2 with h2 | h2
      · exact .inl ⟨h1, m, h2, h3⟩
      · rw [List.mem_singleton] at h2; subst h2
        have hq : q = m.take q.length := List.prefix_iff_eq_take.1 h3
        have hql := h3.length_le
        have hq0 : 0 < q.length := List.length_pos_iff.2 h1
        by_cases hle : q.length ≤ H
        · rcases s2 with s2 | ⟨x, hx, s2⟩
          · omega
          · refine .inl ⟨h1, x, hx, ?_⟩
            have h4 := com_take m x
            rw [← s2] at h4
            have h5 : q <+: m.take H := by rw [hq]; exact List.take_prefix_take_left hle
            exact h5.trans h4
        · refine .inr (List.mem_map.2 ⟨q.length - H - 1, List.mem_range.2 (by omega), ?_⟩)
          rw [show H + (q.length - H - 1) + 1 = q.length by omega]; exact hq.symm
end Go.Proofs.YtnlplnlclnbdiaaGreatDoor
