/- What is in no order comes to a ring: ways along lists; no condition. -/
import Derived.Test.YtblpafmcnhhdpaaUg
namespace Go.Proofs.Ytblpafmcnhhdpaa

/-- A step along the lists. -/
def Ed (A : List (List Int)) (x y : Nat) : Prop := ∃ k ∈ (A[x]?).getD [], vd A.length x k = true ∧ k.toNat = y
/-- A way of so many steps and one. -/
def Rn (A : List (List Int)) : Nat → Nat → Nat → Prop
  | 0, x, y => Ed A x y
  | m + 1, x, y => ∃ z, Ed A x z ∧ Rn A m z y
def Rc (A : List (List Int)) (x y : Nat) : Prop := ∃ m, Rn A m x y
theorem Ed.lt {A : List (List Int)} {x y : Nat} (h : Ed A x y) : y < A.length := by
  obtain ⟨k, -, hv, rfl⟩ := h
  unfold vd at hv
  simp only [Bool.and_eq_true, decide_eq_true_eq] at hv
  omega
theorem Rn.lt {A : List (List Int)} : ∀ {m x y : Nat}, Rn A m x y → y < A.length
  | 0, _, _, h => Ed.lt h
  | m + 1, _, _, ⟨_, _, h⟩ => Rn.lt (m := m) h
theorem Rn.snoc {A : List (List Int)} : ∀ {m x y z : Nat}, Rn A m x y → Ed A y z → Rn A (m + 1) x z
  | 0, _, y, _, h, e => ⟨y, h, e⟩
  | _ + 1, _, _, _, ⟨u, h1, h2⟩, e => ⟨u, h1, Rn.snoc h2 e⟩
theorem Rc.step {A : List (List Int)} {x y z : Nat} (h : Rc A x y) (e : Ed A y z) : Rc A x z := by
  obtain ⟨m, h⟩ := h
  exact ⟨m + 1, h.snoc e⟩
/-- From what is in the order ways lead to what stands ahead of it alone. -/
theorem rn_ord {A : List (List Int)} : ∀ (m p x y : Nat), (ord A)[p]? = some x → Rn A m x y → y ∈ (ord A).take p
  | 0, p, x, y, hp, h => by
    obtain ⟨k, hk, hv, rfl⟩ := h
    exact (ord_end A).2.2 p x hp k hk hv
  | m + 1, p, x, y, hp, h => by
    obtain ⟨z, he, h⟩ := h
    obtain ⟨k, hk, hv, rfl⟩ := he
    have h1 := (ord_end A).2.2 p x hp k hk hv
    obtain ⟨q, hq, e⟩ := List.mem_iff_getElem.1 h1
    rw [List.length_take] at hq
    rw [List.getElem_take] at e
    have h2 := rn_ord m q k.toNat y (by rw [← e]; exact List.getElem?_eq_getElem (by omega)) h
    obtain ⟨r, hr, e2⟩ := List.mem_iff_getElem.1 h2
    rw [List.length_take] at hr
    rw [List.getElem_take] at e2
    refine List.mem_iff_getElem.2 ⟨r, by rw [List.length_take]; omega, ?_⟩
    rw [List.getElem_take]
    exact e2
theorem rc_ord {A : List (List Int)} {x y : Nat} (hx : x ∈ ord A) (h : Rc A x y) : y ∈ ord A ∧ y ≠ x := by
  obtain ⟨p, hp⟩ := List.getElem?_of_mem hx
  obtain ⟨m, h⟩ := h
  have h1 := rn_ord m p x y hp h
  refine ⟨List.mem_of_mem_take h1, fun e => ?_⟩
  subst e
  obtain ⟨q, hq, e⟩ := List.mem_iff_getElem.1 h1
  rw [List.length_take] at hq
  rw [List.getElem_take] at e
  obtain ⟨hpl, e2⟩ := List.getElem?_eq_some_iff.1 hp
  have := List.pairwise_iff_getElem.1 (ord_nodup A) q p (by omega) hpl (by omega)
  exact this (e.trans e2.symm)
theorem nodup_len : ∀ (n : Nat) (l : List Nat), l.Nodup → (∀ i ∈ l, i < n) → l.length ≤ n
  | 0, l, _, h => by
    cases l with
    | nil => simp
    | cons x r => exact absurd (h x (by simp)) (by omega)
  | n + 1, l, hn, h => by
    by_cases hm : n ∈ l
    · have h1 := flt (p := fun _ => true) l hn hm rfl
      have h2 := nodup_len n (l.filter fun j => true && decide (j ≠ n)) (hn.filter _) (fun i hi => by
        rw [List.mem_filter] at hi
        have := h i hi.1
        simp only [Bool.true_and, decide_eq_true_eq] at hi
        omega)
      rw [show (l.filter fun _ => true) = l by simp] at h1
      omega
    · have := nodup_len n l hn (fun i hi => by
        have h1 := h i hi
        have h2 : i ≠ n := fun e => hm (e ▸ hi)
        omega)
      omega
theorem php (n : Nat) (g : Nat → Nat) (h : ∀ m, g m < n) : ∃ a b, a < b ∧ g a = g b := by
  apply Classical.byContradiction
  intro hc
  have hn : ((List.range (n + 1)).map g).Nodup := by
    rw [List.Nodup, List.pairwise_map]
    rw [List.pairwise_iff_getElem]
    intro i j hi hj hlt e
    rw [List.getElem_range, List.getElem_range] at e
    exact hc ⟨i, j, hlt, e⟩
  have := nodup_len n _ hn (fun i hi => by
    obtain ⟨m, -, rfl⟩ := List.mem_map.1 hi
    exact h m)
  simp only [List.length_map, List.length_range] at this
  omega
/-- From what is in no order a way goes on and on. -/
theorem way {A : List (List Int)} {x : Nat} (hx : x < A.length) (h : x ∉ ord A) : ∃ g : Nat → Nat, g 0 = x ∧ (∀ m, g m < A.length) ∧ ∀ m, Ed A (g m) (g (m + 1)) := by
  have hs : ∀ y : { y : Nat // y < A.length ∧ y ∉ ord A }, ∃ z : { y : Nat // y < A.length ∧ y ∉ ord A }, Ed A y.1 z.1 := fun y => by
    obtain ⟨k, hk, hv, hn⟩ := not_ord y.2.1 y.2.2
    have he : Ed A y.1 k.toNat := ⟨k, hk, hv, rfl⟩
    exact ⟨⟨k.toNat, he.lt, hn⟩, he⟩
  refine ⟨fun m => (Nat.repeat (fun y => Classical.choose (hs y)) m ⟨x, hx, h⟩).1, rfl, fun m => (Nat.repeat (fun y => Classical.choose (hs y)) m ⟨x, hx, h⟩).2.1, fun m => ?_⟩
  exact Classical.choose_spec (hs (Nat.repeat (fun y => Classical.choose (hs y)) m ⟨x, hx, h⟩))
theorem way_rn {A : List (List Int)} {g : Nat → Nat} (h : ∀ m, Ed A (g m) (g (m + 1))) (a : Nat) : ∀ d, Rn A d (g a) (g (a + d + 1))
  | 0 => h a
  | d + 1 => (way_rn h a d).snoc (h (a + d + 1))
/-- What comes to a ring. -/
def Rg (A : List (List Int)) (x : Nat) : Prop := (∃ k, Rc A x k ∧ Rc A k k) ∨ Rc A x x
theorem ring_iff {A : List (List Int)} {x : Nat} (hx : x < A.length) : x ∉ ord A ↔ Rg A x := by
  constructor
  · intro h
    obtain ⟨g, g0, g1, g2⟩ := way hx h
    obtain ⟨a, b, hab, e⟩ := php A.length g g1
    have h1 := way_rn g2 a (b - a - 1)
    rw [show a + (b - a - 1) + 1 = b by omega, ← e] at h1
    cases a with
    | zero => rw [g0] at h1; exact .inr ⟨_, h1⟩
    | succ a =>
      refine .inl ⟨g (a + 1), ?_, ⟨_, h1⟩⟩
      have h2 := way_rn g2 0 a
      rw [show 0 + a + 1 = a + 1 by omega, g0] at h2
      exact ⟨_, h2⟩
  · rintro (⟨k, h1, h2⟩ | h) hm
    · exact (rc_ord (rc_ord hm h1).1 h2).2 rfl
    · exact (rc_ord hm h).2 rfl
end Go.Proofs.Ytblpafmcnhhdpaa
