/- The plain theory of subscriptions in a tree: rows that rise are told by their members, rows without a double by theirs in number, what the search of a name hits; lists alone, no run of the model in this text. -/
import Derived.Test.YtcnglhlljmfanaaGreatDoorTq
import Derived.Test.YtcnglhlljmfanaaGreatDoorRd
namespace Go.Proofs.YtcnglhlljmfanaaGreatDoor
open Go.RowKit Tp

/-- Two rows that rise, with the same members, are one. -/
theorem rise_ext {α : Type} (lt : α → α → Prop) (irr : ∀ a, ¬ lt a a) (tr : ∀ a b c, lt a b → lt b c → lt a c) :
    ∀ (xs ys : List α), xs.Pairwise lt → ys.Pairwise lt → (∀ a, a ∈ xs ↔ a ∈ ys) → xs = ys
  | [], [], _, _, _ => rfl
  | [], y :: ys, _, _, h => absurd ((h y).2 (by simp)) (by simp)
  | x :: xs, [], _, _, h => absurd ((h x).1 (by simp)) (by simp)
  | x :: xs, y :: ys, hx, hy, h => by
    rw [List.pairwise_cons] at hx hy
    have e : x = y := by
      rcases List.mem_cons.1 ((h x).1 (by simp)) with e | e
      · exact e
      · rcases List.mem_cons.1 ((h y).2 (by simp)) with e' | e'
        · exact e'.symm
        · exact absurd (tr _ _ _ (hy.1 x e) (hx.1 y e')) (irr _)
    subst e
    congr 1
    refine rise_ext lt irr tr xs ys hx.2 hy.2 fun a => ⟨fun ha => ?_, fun ha => ?_⟩
    · rcases List.mem_cons.1 ((h a).1 (by simp [ha])) with e | e
      · subst e; exact absurd (hx.1 _ ha) (irr _)
      · exact e
    · rcases List.mem_cons.1 ((h a).2 (by simp [ha])) with e | e
      · subst e; exact absurd (hy.1 _ ha) (irr _)
      · exact e

/-- A row without a double, its members among another's, is no longer. -/
theorem nodup_le {α : Type} : ∀ (xs ys : List α), xs.Nodup → (∀ a, a ∈ xs → a ∈ ys) → xs.length ≤ ys.length
  | [], _, _, _ => Nat.zero_le _
  | x :: xs, ys, hx, h => by
    rw [List.nodup_cons] at hx
    obtain ⟨l, r, rfl⟩ := List.append_of_mem (h x (by simp))
    have := nodup_le xs (l ++ r) hx.2 (fun a ha => by
      have h1 := h a (by simp [ha])
      rw [List.mem_append, List.mem_cons] at h1
      rw [List.mem_append]
      rcases h1 with h1 | h1 | h1
      · exact .inl h1
      · subst h1; exact absurd ha hx.1
      · exact .inr h1)
    simp at this ⊢
    omega
theorem nodup_eq {α : Type} (xs ys : List α) (hx : xs.Nodup) (hy : ys.Nodup) (h : ∀ a, a ∈ xs ↔ a ∈ ys) : xs.length = ys.length :=
  Nat.le_antisymm (nodup_le xs ys hx fun a => (h a).1) (nodup_le ys xs hy fun a => (h a).2)

/-- Paths in the tree: rows of levels. -/
abbrev Pth := List Bs

/-- What the search hits, from a node on, with these levels of a name left. -/
def hit : Pth → Pth → Bool
  | [], L => L.isEmpty
  | x :: s, L => if x = ha ∧ s = [] then true else match L with
    | [] => false
    | y :: L' => if x = y ∨ x = pl then hit s L' else false

theorem hit_agr : ∀ (s L : Pth), fl s = true → (∀ y ∈ L, y ≠ ha) → agr s L = hit s L
  | [], L, _, _ => by simp [agr, hit]
  | x :: s, L, hs, hL => by
    by_cases hx : x = ha
    · subst hx
      have := fl_last (ha :: s) hs 0 rfl
      have : s = [] := by cases s <;> simp at this ⊢
      subst this
      simp [agr, hit]
    · have ht : fl s = true := by
        rw [fl, if_neg hx, Bool.and_eq_true] at hs
        exact hs.2
      cases L with
      | nil => simp [agr, hit, hx]
      | cons y L' =>
        have ih := hit_agr s L' ht (fun z hz => hL z (by simp [hz]))
        simp only [agr, hit, hx, false_and, if_false]
        by_cases h1 : x = pl ∨ x = y
        · rw [if_pos h1, if_pos h1.symm, ih]
        · rw [if_neg h1, if_neg (fun h => h1 h.symm)]
end Go.Proofs.YtcnglhlljmfanaaGreatDoor
