/- The search of a name: gather, through, run: the numbers of all paths that the name's levels hit go into the set that is handed on; no condition but those that each theorem names. -/
import Derived.Test.YtcnglhlljmfanaaGreatDoorKi
namespace Go.Proofs.YtcnglhlljmfanaaGreatDoor
open Go.RowKit Tp Go.Maps Go.Shelf

/-- The numbers that the search finds from a path on. -/
def fnd (S : Pth → Int → Bool) : Pth → Pth → Int → Bool
  | [], p, i => S (p ++ [ha]) i || S p i
  | y :: L, p, i => S (p ++ [ha]) i || fnd S L (p ++ [y]) i || fnd S L (p ++ [pl]) i

theorem fnd_iff (S : Pth → Int → Bool) (i : Int) : ∀ (L p : Pth), fnd S L p i = true ↔ ∃ s, hit s L = true ∧ S (p ++ s) i = true
  | [], p => by
    simp only [fnd, Bool.or_eq_true]
    constructor
    · rintro (h | h)
      · exact ⟨[ha], by simp [hit], h⟩
      · exact ⟨[], by simp [hit], by simpa using h⟩
    · rintro ⟨s, h1, h2⟩
      cases s with
      | nil => right; simpa using h2
      | cons x s =>
        by_cases e : x = ha ∧ s = []
        · obtain ⟨rfl, rfl⟩ := e; exact .inl h2
        · rw [hit, if_neg e] at h1; cases h1
  | y :: L, p => by
    simp only [fnd, Bool.or_eq_true, fnd_iff S i L]
    constructor
    · rintro ((h | ⟨s, h1, h2⟩) | ⟨s, h1, h2⟩)
      · exact ⟨[ha], by simp [hit], h⟩
      · refine ⟨y :: s, ?_, by simpa using h2⟩
        by_cases e : y = ha ∧ s = []
        · rw [hit, if_pos e]
        · rw [hit, if_neg e]; simp [h1]
      · refine ⟨pl :: s, ?_, by simpa using h2⟩
        rw [hit, if_neg (fun e => absurd e.1 (by decide))]; simp [h1]
    · rintro ⟨s, h1, h2⟩
      cases s with
      | nil => simp [hit] at h1
      | cons x s =>
        by_cases e : x = ha ∧ s = []
        · obtain ⟨rfl, rfl⟩ := e; exact .inl (.inl h2)
        · rw [hit, if_neg e] at h1
          by_cases h3 : x = y ∨ x = pl
          · simp only [if_pos h3] at h1
            rcases h3 with rfl | rfl
            · exact .inl (.inr ⟨s, h1, by simpa using h2⟩)
            · exact .inr ⟨s, h1, by simpa using h2⟩
          · simp only [if_neg h3] at h1; cases h1

theorem G.fnd_none {w : World} {nd : Pth → Option Nd} {own : Nat → Option (Pth × Nat)} {S : Pth → Int → Bool} {K : Nat} (g : G w nd own S K) {q : Pth} (h : nd q = none) (L : Pth) (i : Int) : fnd S L q i = false := by
  cases hf : fnd S L q i with
  | false => rfl
  | true =>
    obtain ⟨s, _, h2⟩ := (fnd_iff S i L q).1 hf
    rw [g.non _ i (g.gone s q h)] at h2; cases h2

section
variable {w : World} {nd : Pth → Option Nd} {own : Nat → Option (Pth × Nat)} {S : Pth → Int → Bool} {K : Nat} {p : Pth} {n : Nd}

set_option maxRecDepth 100000 in
set_option maxHeartbeats 2000000 in
theorem gather_any (g : G w nd own S K) (q : Pth) (v0 v1 : Value) (fb : Nat) (hv0 : ∃ a, v0 = .pointer a) (hv1 : ∃ a k c, v1 = .slice a k c) (hfb : own fb = none) (s1 : Int → Bool) (U : List Int) (hs : SetAt w (some fb) s1 U.length) (hU1 : ∀ i, s1 i = true → i ∈ U) (hU : ∀ q i, S q i = true → i ∈ U) (hK : U.length + K < maxLen) :
    Calls Tryz.prog 57 #[.agg #[v0, v1, .map (some fb)], pt ((nd q).map Nd.a)] w fun e w' => e = .returned (.tuple #[]) ∧ SetAt w' (some fb) (fun i => s1 i || S q i) U.length ∧ But (fun k => k = fb) w w' := by
  obtain ⟨a0, rfl⟩ := hv0
  obtain ⟨a1, k1, c1, rfl⟩ := hv1
  cases hq : nd q with
  | none =>
    simp only [Option.map_none, pt]
    go_enter Tryz.func57, Tryz.ntmps57
    go_wp2
    go_end0
    have e : (fun i => s1 i || S q i) = s1 := funext fun i => by rw [g.non q i hq]; simp
    rw [e]
    exact ⟨rfl, hs.but (But.alloc (C := fun _ => False) w _) (fun _ _ h => h), But.alloc _ _⟩
  | some m =>
    obtain ⟨a, x, y⟩ := m
    simp only [Option.map_some, pt]
    have hB0 := below1 w (.cells #[.pointer a0, .slice a1 k1 c1, .map (some fb)] 61)
    have g1 := g.below hB0
    have hb : _ = some (Obj.cells #[.map x, .map y] 39 (0, 0)) := g1.cell q _ hq
    have hc0 := cell_at hb 0
    simp at hc0
    have hx : SetAt _ x (S q) K := g1.num q _ hq
    have hs1 := hs.but (But.of_below (C := fun _ => False) hB0) (fun _ _ h => h)
    have hxne : x ≠ some fb := fun e => by have := g.ox q ⟨a, x, y⟩ fb hq e; rw [hfb] at this; cases this
    have hfl : fb < w.heap.size := by obtain ⟨_, _, h, _⟩ := hs; exact h.lt
    have hal : a < w.heap.size := g.lt a (by rw [g.oa q ⟨a, x, y⟩ hq]; simp)
    have hafb : a ≠ fb := fun e => by have := g.oa q ⟨a, x, y⟩ hq; rw [show (⟨a, x, y⟩ : Nd).a = fb from e, hfb] at this; cases this
    have hn := heap_alloc_new w (.cells #[.pointer a0, .slice a1 k1 c1, .map (some fb)] 61)
    have hd : (w.alloc (.cells #[.pointer a0, .slice a1 k1 c1, .map (some fb)] 61)).cell? ⟨w.heap.size, 2, none⟩ = some (.map (some fb)) := by rw [cell_at hn 2]; rfl
    have KA : Hid (Calls Tryz.prog 77 #[.map (some fb), .map x] (w.alloc (.cells #[.pointer a0, .slice a1 k1 c1, .map (some fb)] 61)).drew fun e w' => e = .returned (.tuple #[]) ∧ SetAt w' (some fb) (fun i => s1 i || S q i) U.length ∧ But (fun k => k = fb) w w' ∧ w'.cell? ⟨w.heap.size, 2, none⟩ = some (.map (some fb)) ∧ w'.cell? ⟨a, 0, none⟩ = some (.map x)) :=
      (copy_any fb x s1 (S q) U.length K _ (hs.but (But.of_below (C := fun _ => False) (Below.drew hB0)) (fun _ _ h => h)) ((g.below (Below.drew hB0)).num q _ hq) hxne hK).mono fun e w1 ⟨he, h1, hB1⟩ => by
        refine ⟨he, h1.tight U (fun i h => by simp only [Bool.or_eq_true] at h; exact h.elim (hU1 i) (hU q i)), (But.of_below (Below.drew hB0)).trans hB1 (fun _ _ h => h), ?_, ?_⟩
        · have := hB1.at (k := w.heap.size) (o := .cells #[.pointer a0, .slice a1 k1 c1, .map (some fb)] 61) hn (by omega)
          rw [cell_at this 2]; rfl
        · have := hB1.at (k := a) hb hafb
          rw [cell_at this 0]; rfl
    clear hs1 hx hb
    go_enter Tryz.func57, Tryz.ntmps57
    go_wp2_with fail
    go_region_held3 (fun w' => w'.cell? ⟨w.heap.size, 2, none⟩ = some (.map (some fb)) ∧ w'.cell? ⟨a, 0, none⟩ = some (.map x)) (first | with_reducible assumption | with_reducible exact ⟨z0, z1⟩ | exact ⟨hd, hc0⟩) (
      (go_at_call 77; refine KA.out.mono ?_; rintro e w1 ⟨rfl, h1, hB1, z0, z1⟩))
    all_goals go_wp2
    all_goals go_end0
    exact ⟨rfl, h1, hB1⟩
end
end Go.Proofs.YtcnglhlljmfanaaGreatDoor
