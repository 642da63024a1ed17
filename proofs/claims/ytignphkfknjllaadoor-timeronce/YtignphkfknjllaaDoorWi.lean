/- A timer that leaves its slot, in memory; the conditions: the slots and the timers in memory. -/
import Derived.Test.YtignphkfknjllaaDoorWh
namespace Go.Proofs.YtignphkfknjllaaDoor
open Go.RowKit

/-- What a timer that leaves lets behind. -/
structure Le (w : World) (b k : Nat) (q : Nat → List Tm) (p0 : List Tm) (t : Tm) (r0 : List Tm) (ls : Int) (w' : World) : Prop where
  wm : Wm w' b (up q k (p0 ++ r0))
  c3 : mem w' b (2 + 4 * k + 3) = some (.int .i64 (if (t.a : Int) = ls then 0 else ls))
  ot : ∀ o, (o < 2 + 4 * k ∨ o = 2 + 4 * k + 2 ∨ 2 + 4 * k + 4 ≤ o) → mem w' b o = mem w b o
  tm : ∀ o, mem w' t.b o = mem w t.b o
  kp : Kp (Own b q) w w'
/-- Where a link lies. -/
structure Lk (w : World) (b k : Nat) (q : Nat → List Tm) (t : Tm) (l : Option Tm) (d : Nat) (X x : Nat) : Prop where
  ca : ∀ w, Calls Tryd.prog 48 #[.pointer (some ⟨b, 2 + 4 * k, none⟩), pt (l.map Tm.b)] w fun e w' => e = .returned (.pointer (some ⟨X, x, none⟩)) ∧ w' = w
  ne : X ≠ t.b
  ce : mem w X (x + d) = some (.pointer (some ⟨t.b, 0, none⟩))
  fr : ∀ o, w.frozen? ⟨X, o, none⟩ = false
  ow : Own b q X
  is : (l = none ∧ X = b ∧ x = 2 + 4 * k) ∨ (∃ u, l = some u ∧ X = u.b ∧ x = 0)
theorem lk_ahead {w : World} {b k : Nat} {q : Nat → List Tm} (h : Wm w b q) (hk : k < 448) (p0 : List Tm) (t : Tm) (r0 : List Tm) (e : q k = p0 ++ t :: r0) : ∃ X x, Lk w b k q t p0.getLast? 1 X x := by
  have htm : t ∈ q k := by rw [e]; simp
  cases hp : p0.getLast? with
  | none =>
    obtain rfl : p0 = [] := List.getLast?_eq_none_iff.1 hp
    have := h.ls.be k hk
    rw [e] at this
    exact ⟨b, 2 + 4 * k, fun w => links_nil _ w rfl, (h.ls.ne k t hk htm).symm, this, bk_f h.bb, .inl rfl, .inl ⟨rfl, rfl, rfl⟩⟩
  | some u =>
    obtain ⟨p, rfl⟩ := List.getLast?_eq_some_iff.1 hp
    have e' : q k = p ++ u :: (t :: r0) := by rw [e]; simp
    have hum : u ∈ q k := by rw [e']; simp
    refine ⟨u.b, 0, fun w => links_tm _ _ w, fun c => ?_, h.ls.tb k p u _ hk e', bk_f (h.tb k u hk hum), .inr ⟨k, u, hk, hum, rfl⟩, .inr ⟨u, rfl, rfl, rfl⟩⟩
    have := (h.ls.ds k _ _ _ k _ _ _ hk hk e' e c).2.1
    have := congrArg List.length this
    simp at this
theorem lk_behind {w : World} {b k : Nat} {q : Nat → List Tm} (h : Wm w b q) (hk : k < 448) (p0 : List Tm) (t : Tm) (r0 : List Tm) (e : q k = p0 ++ t :: r0) : ∃ X x, Lk w b k q t r0.head? 0 X x := by
  have htm : t ∈ q k := by rw [e]; simp
  cases r0 with
  | nil =>
    have := h.ls.ah k hk
    rw [e] at this
    exact ⟨b, 2 + 4 * k, fun w => links_nil _ w rfl, (h.ls.ne k t hk htm).symm, by simpa [pt] using this, bk_f h.bb, .inl rfl, .inl ⟨rfl, rfl, rfl⟩⟩
  | cons u r =>
    have e' : q k = (p0 ++ [t]) ++ u :: r := by rw [e]; simp
    have hum : u ∈ q k := by rw [e']; simp
    refine ⟨u.b, 0, fun w => links_tm _ _ w, fun c => ?_, by simpa [pt] using h.ls.ta k _ u r hk e', bk_f (h.tb k u hk hum), .inr ⟨k, u, hk, hum, rfl⟩, .inr ⟨u, rfl, rfl, rfl⟩⟩
    have := (h.ls.ds k _ _ _ k _ _ _ hk hk e' e c).2.1
    have := congrArg List.length this
    simp at this

theorem slotleave_any {w : World} {b k : Nat} {q : Nat → List Tm} (h : Wm w b q) (hk : k < 448) (p0 : List Tm) (t : Tm) (r0 : List Tm) (e : q k = p0 ++ t :: r0) (ls : Int) (c3 : mem w b (2 + 4 * k + 3) = some (.int .i64 ls)) :
    Calls Tryd.prog 41 #[.pointer (some ⟨b, 2 + 4 * k, none⟩), .pointer (some ⟨t.b, 0, none⟩)] w fun e w' => e = .returned (.tuple #[]) ∧ Le w b k q p0 t r0 ls w' := by
  have htm : t ∈ q k := by rw [e]; simp
  have htb := h.ls.ne k t hk htm
  obtain ⟨X1, x1, A⟩ := lk_ahead h hk p0 t r0 e
  obtain ⟨X2, x2, B⟩ := lk_behind h hk p0 t r0 e
  have n0 := h.ls.ta k p0 t r0 hk e
  have n1 := h.ls.tb k p0 t r0 hk e
  have n2 := (h.ls.tc k t hk htm).1
  have hm1 : ∀ u, p0.getLast? = some u → ∃ p, q k = p ++ u :: (t :: r0) ∧ p0 = p ++ [u] := fun u hu => by
    obtain ⟨p, hp⟩ := List.getLast?_eq_some_iff.1 hu
    exact ⟨p, by rw [e, hp]; simp, hp⟩
  have hm2 : ∀ u, r0.head? = some u → ∃ r, q k = (p0 ++ [t]) ++ u :: r := fun u hu => by
    cases r0 with
    | nil => simp at hu
    | cons x r => simp at hu; subst hu; exact ⟨r, by rw [e]; simp⟩
  have k1 : ∀ u, p0.getLast? = some u → u.b ≠ b := fun u hu => by obtain ⟨p, hp, _⟩ := hm1 u hu; exact h.ls.ne k u hk (by rw [hp]; simp)
  have k2 : ∀ u, r0.head? = some u → u.b ≠ b := fun u hu => by obtain ⟨r, hr⟩ := hm2 u hu; exact h.ls.ne k u hk (by rw [hr]; simp)
  have hx : ¬ (X1 = X2 ∧ x1 + 1 = x2) := by
    rintro ⟨e1, e2⟩
    rcases A.is with ⟨_, a1, a2⟩ | ⟨u, hu, a1, a2⟩ <;> rcases B.is with ⟨_, b1, b2⟩ | ⟨v, hv, b1, b2⟩
    · omega
    · omega
    · exact k1 u hu (by omega)
    · omega
  have h31 : ¬ (X1 = b ∧ x1 + 1 = 2 + 4 * k + 3) := by
    rintro ⟨e1, e2⟩
    rcases A.is with ⟨_, a1, a2⟩ | ⟨u, hu, a1, a2⟩ <;> omega
  have h32 : ¬ (X2 = b ∧ x2 = 2 + 4 * k + 3) := by
    rintro ⟨e1, e2⟩
    rcases B.is with ⟨_, a1, a2⟩ | ⟨u, hu, a1, a2⟩ <;> omega
  refine (leave_links b (2 + 4 * k) t.b _ _ X1 x1 X2 x2 _ _ w t.a ls A.ca B.ca A.ne B.ne (Ne.symm htb) hx h31 h32 n0 n1 n2 c3 A.ce B.ce (bk_f h.bb) A.fr B.fr).mono ?_
  rintro e' w' ⟨rfl, L⟩
  refine ⟨rfl, ?_⟩
  obtain ⟨W0, hW0⟩ : ∃ W0, W0 = (if (t.a : Int) = ls then w.setCell ⟨b, 2 + 4 * k + 3, none⟩ (.int .i64 0) else w) := ⟨_, rfl⟩
  rw [← hW0] at L
  have hK0 : Kp (Own b q) w W0 ∧ mem W0 = upd (mem w) b (2 + 4 * k + 3) (.int .i64 (if (t.a : Int) = ls then 0 else ls)) := by
    rw [hW0]
    by_cases c : (t.a : Int) = ls
    · rw [if_pos c, if_pos c]; exact ⟨(Kp.refl _ w).set _ _ _ (.inl rfl), mem_set _ c3⟩
    · rw [if_neg c, if_neg c]
      refine ⟨Kp.refl _ w, ?_⟩
      funext B' o'
      unfold upd
      by_cases c' : B' = b ∧ o' = 2 + 4 * k + 3
      · rw [if_pos c', c'.1, c'.2, c3]
      · rw [if_neg c']
  obtain ⟨kp0, M0⟩ := hK0
  have M1 := mem_set (w := W0) (B := X1) (o := x1 + 1) (pt (r0.head?.map Tm.b)) (by rw [M0, upd_other _ _ h31]; exact A.ce)
  have M2 := mem_set (w := W0.setCell ⟨X1, x1 + 1, none⟩ (pt (r0.head?.map Tm.b))) (B := X2) (o := x2) (pt (p0.getLast?.map Tm.b)) (by rw [M1, M0, upd_other _ _ (fun c => hx ⟨c.1.symm, c.2.symm⟩), upd_other _ _ h32]; exact B.ce)
  rw [M1, M0] at M2
  have kp := ((kp0.set X1 (x1 + 1) (pt (r0.head?.map Tm.b)) A.ow).set X2 x2 (pt (p0.getLast?.map Tm.b)) B.ow).like L
  have M5 := (mem_like L).trans M2
  clear M0 M1 M2 L hW0
  have g1 : ∀ u, p0.getLast? = some u → X1 = u.b ∧ x1 = 0 := fun u hu => by
    rcases A.is with ⟨c, _⟩ | ⟨v, hv, a1, a2⟩
    · rw [hu] at c; cases c
    · rw [hu] at hv; cases hv; exact ⟨a1, a2⟩
  have g2 : p0 = [] → X1 = b ∧ x1 = 2 + 4 * k := fun c => by
    rcases A.is with ⟨_, a1, a2⟩ | ⟨v, hv, _, _⟩
    · exact ⟨a1, a2⟩
    · rw [c] at hv; cases hv
  have g3 : ∀ u, r0.head? = some u → X2 = u.b ∧ x2 = 0 := fun u hu => by
    rcases B.is with ⟨c, _⟩ | ⟨v, hv, a1, a2⟩
    · rw [hu] at c; cases c
    · rw [hu] at hv; cases hv; exact ⟨a1, a2⟩
  have g4 : r0 = [] → X2 = b ∧ x2 = 2 + 4 * k := fun c => by
    rcases B.is with ⟨_, a1, a2⟩ | ⟨v, hv, _, _⟩
    · exact ⟨a1, a2⟩
    · rw [c] at hv; cases hv
  have s1 : mem w' X1 (x1 + 1) = some (pt (r0.head?.map Tm.b)) := by rw [M5, upd_other _ _ hx, upd_same]
  have s2 : mem w' X2 x2 = some (pt (p0.getLast?.map Tm.b)) := by rw [M5, upd_same]
  refine ⟨⟨?_, kp.bk _ _ h.bb, fun j v hj hv => ?_⟩, ?_, fun o ho => ?_, fun o => ?_, kp⟩
  · refine h.ls.leave hk p0 t r0 e (fun c => ?_) (fun u hu => ?_) (fun c => ?_) (fun u hu => ?_) (fun B' o h1 h2 h3 h4 h5 => ?_)
    · obtain ⟨a1, a2⟩ := g2 c; rw [← a1, ← a2]; exact s1
    · obtain ⟨a1, a2⟩ := g1 u hu
      rw [a2] at s1
      rw [← a1]; exact s1
    · obtain ⟨a1, a2⟩ := g4 c; rw [← a1, ← a2]; exact s2
    · obtain ⟨a1, a2⟩ := g3 u hu
      rw [a2] at s2
      rw [← a1]; exact s2
    · rw [M5, upd_other _ _ (fun c => ?_), upd_other _ _ (fun c => ?_), upd_other _ _ (fun c => ?_)]
      · have := h1 c.1; omega
      · rcases A.is with ⟨a0, a1, a2⟩ | ⟨u, hu, a1, a2⟩
        · exact h2 ⟨List.getLast?_eq_none_iff.1 a0, by omega, by omega⟩
        · exact h3 u hu ⟨by omega, by omega⟩
      · rcases B.is with ⟨a0, a1, a2⟩ | ⟨u, hu, a1, a2⟩
        · exact h4 ⟨List.head?_eq_none_iff.1 a0, by omega, by omega⟩
        · exact h5 u hu ⟨by omega, by omega⟩
  · have hv' : v ∈ q j := by
      by_cases c : j = k
      · subst c
        rw [up_same] at hv
        rw [e]
        rcases List.mem_append.1 hv with hv | hv <;> simp [hv]
      · rw [up_other _ _ c] at hv; exact hv
    exact kp.bk _ _ (h.tb j v hj hv')
  · rw [M5, upd_other _ _ (fun c => h32 ⟨c.1.symm, c.2.symm⟩), upd_other _ _ (fun c => h31 ⟨c.1.symm, c.2.symm⟩), upd_same]
  · rw [M5, upd_other _ _ (fun c => ?_), upd_other _ _ (fun c => ?_), upd_other _ _ (by omega)]
    · rcases A.is with ⟨a0, a1, a2⟩ | ⟨u, hu, a1, a2⟩
      · omega
      · exact k1 u hu (by omega)
    · rcases B.is with ⟨a0, a1, a2⟩ | ⟨u, hu, a1, a2⟩
      · omega
      · exact k2 u hu (by omega)
  · rw [M5, upd_other _ _ (fun c => B.ne c.1.symm), upd_other _ _ (fun c => A.ne c.1.symm), upd_other _ _ (fun c => htb c.1)]
end Go.Proofs.YtignphkfknjllaaDoor
