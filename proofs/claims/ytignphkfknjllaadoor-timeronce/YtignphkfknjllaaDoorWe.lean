/- Slots as lists of timers with links, in memory: a timer put behind, a timer that leaves; no condition but those that each theorem names. -/
import Derived.Test.YtignphkfknjllaaDoorWa
namespace Go.Proofs.YtignphkfknjllaaDoor
open Go.RowKit

/-- A timer: its block, its tick, its number. -/
structure Tm where
  b : Nat
  a : Nat
  i : Int
/-- A pointer to a timer, or none. -/
def pt (o : Option Nat) : Value := .pointer (o.map fun N => ⟨N, 0, none⟩)
/-- One slot turned. -/
def up (q : Nat → List Tm) (k : Nat) (l : List Tm) : Nat → List Tm := fun j => if j = k then l else q j
theorem up_same (q : Nat → List Tm) (k : Nat) (l : List Tm) : up q k l k = l := by simp [up]
theorem up_other (q : Nat → List Tm) {k j : Nat} (l : List Tm) (h : j ≠ k) : up q k l j = q j := by simp [up, h]

theorem snoc_split {l p r : List Tm} {t u : Tm} (h : l ++ [t] = p ++ u :: r) : (r = [] ∧ p = l ∧ u = t) ∨ ∃ r0, r = r0 ++ [t] ∧ l = p ++ u :: r0 := by
  rcases List.eq_nil_or_concat r with rfl | ⟨r0, x, rfl⟩
  · have := List.append_inj' h rfl
    exact .inl ⟨rfl, this.1.symm, by simpa using this.2.symm⟩
  · have h' : l ++ [t] = (p ++ u :: r0) ++ [x] := by simpa using h
    have := List.append_inj' h' rfl
    have hx : t = x := by simpa using this.2
    exact .inr ⟨r0, by simp [hx], this.1⟩
theorem mid_split {p0 r0 p r : List Tm} {t : Tm} (h : p0 ++ r0 = p ++ t :: r) : (∃ p1, p0 = p ++ t :: p1 ∧ r = p1 ++ r0) ∨ (∃ r1, r0 = r1 ++ t :: r ∧ p = p0 ++ r1) := by
  rcases List.append_eq_append_iff.1 h with ⟨a, h1, h2⟩ | ⟨a, h1, h2⟩
  · exact .inr ⟨a, h2, h1⟩
  · cases a with
    | nil => exact .inr ⟨[], by simpa using h2.symm, by simpa using h1.symm⟩
    | cons x a =>
      simp at h2
      obtain ⟨rfl, h2⟩ := h2
      exact .inl ⟨a, h1, h2⟩

/-- The slots' links in memory. -/
structure Ls (M : Nat → Nat → Option Value) (b : Nat) (q : Nat → List Tm) : Prop where
  ah : ∀ k, k < 448 → M b (2 + 4 * k) = some (pt ((q k).getLast?.map Tm.b))
  be : ∀ k, k < 448 → M b (2 + 4 * k + 1) = some (pt ((q k).head?.map Tm.b))
  ta : ∀ k p t r, k < 448 → q k = p ++ t :: r → M t.b 0 = some (pt (p.getLast?.map Tm.b))
  tb : ∀ k p t r, k < 448 → q k = p ++ t :: r → M t.b 1 = some (pt (r.head?.map Tm.b))
  tc : ∀ k t, k < 448 → t ∈ q k → M t.b 2 = some (.int .i64 t.a) ∧ M t.b 3 = some (.int .i64 t.i)
  ne : ∀ k t, k < 448 → t ∈ q k → t.b ≠ b
  ds : ∀ k p t r k' p' t' r', k < 448 → k' < 448 → q k = p ++ t :: r → q k' = p' ++ t' :: r' → t.b = t'.b → k = k' ∧ p = p' ∧ t = t' ∧ r = r'
theorem Ls.same {M M' : Nat → Nat → Option Value} {b : Nat} {q : Nat → List Tm} (h : Ls M b q) (hb : ∀ o, o < 1794 → (o % 4 = 2 ∨ o % 4 = 3) → M' b o = M b o) (ht : ∀ k t o, k < 448 → t ∈ q k → M' t.b o = M t.b o) : Ls M' b q where
  ah := fun k hk => (hb _ (by omega) (by omega)).trans (h.ah k hk)
  be := fun k hk => (hb _ (by omega) (by omega)).trans (h.be k hk)
  ta := fun k p t r hk e => (ht k t 0 hk (by rw [e]; simp)).trans (h.ta k p t r hk e)
  tb := fun k p t r hk e => (ht k t 1 hk (by rw [e]; simp)).trans (h.tb k p t r hk e)
  tc := fun k t hk e => ⟨(ht k t 2 hk e).trans (h.tc k t hk e).1, (ht k t 3 hk e).trans (h.tc k t hk e).2⟩
  ne := h.ne
  ds := h.ds

theorem Ls.put {M M' : Nat → Nat → Option Value} {b k : Nat} {q : Nat → List Tm} (h : Ls M b q) (hk : k < 448) (t : Tm) (hb : t.b ≠ b) (hn : ∀ k t', k < 448 → t' ∈ q k → t'.b ≠ t.b)
    (m0 : M' t.b 0 = some (pt ((q k).getLast?.map Tm.b))) (m1 : M' t.b 1 = some (pt none)) (m2 : M' t.b 2 = some (.int .i64 t.a)) (m3 : M' t.b 3 = some (.int .i64 t.i))
    (mb : M' b (2 + 4 * k) = some (pt (some t.b))) (me : q k = [] → M' b (2 + 4 * k + 1) = some (pt (some t.b))) (ml : ∀ u, (q k).getLast? = some u → M' u.b 1 = some (pt (some t.b)))
    (mo : ∀ B o, B ≠ t.b → (B = b → o < 1794 ∧ (o % 4 = 2 ∨ o % 4 = 3)) → ¬ (B = b ∧ o = 2 + 4 * k) → ¬ (q k = [] ∧ B = b ∧ o = 2 + 4 * k + 1) → (∀ u, (q k).getLast? = some u → ¬ (B = u.b ∧ o = 1)) → M' B o = M B o) :
    Ls M' b (up q k (q k ++ [t])) := by
  have hlast : ∀ u, (q k).getLast? = some u → ∃ p, q k = p ++ u :: [] := fun u hu => by
    obtain ⟨p, hp⟩ := List.getLast?_eq_some_iff.1 hu
    exact ⟨p, hp⟩
  have hlm : ∀ u, (q k).getLast? = some u → u ∈ q k := fun u hu => List.mem_of_getLast? hu
  refine ⟨fun j hj => ?_, fun j hj => ?_, fun j p u r hj e => ?_, fun j p u r hj e => ?_, fun j u hj e => ?_, fun j u hj e => ?_, fun j p u r j' p' u' r' hj hj' e e' hu => ?_⟩
  · by_cases c : j = k
    · subst c; rw [up_same, mb]; simp
    · rw [up_other _ _ c, mo _ _ (Ne.symm hb) (fun _ => ⟨by omega, by omega⟩) (fun e => c (by omega)) (fun e => by omega) (fun u hu e => h.ne k u hk (hlm u hu) e.1.symm)]
      exact h.ah j hj
  · by_cases c : j = k
    · subst c; rw [up_same]
      by_cases hq : q j = []
      · rw [me hq, hq]; simp
      · rw [mo _ _ (Ne.symm hb) (fun _ => ⟨by omega, by omega⟩) (fun e => by omega) (fun e => hq e.1) (fun u hu e => h.ne j u hk (hlm u hu) e.1.symm), h.be j hj]
        cases hh : q j with
        | nil => exact absurd hh hq
        | cons x y => simp
    · rw [up_other _ _ c, mo _ _ (Ne.symm hb) (fun _ => ⟨by omega, by omega⟩) (fun e => by omega) (fun e => c (by omega)) (fun u hu e => h.ne k u hk (hlm u hu) e.1.symm)]
      exact h.be j hj
  · have key : ∀ r0, q j = p ++ u :: r0 → M' u.b 0 = some (pt (p.getLast?.map Tm.b)) := fun r0 e0 => by
      have hm : u ∈ q j := by rw [e0]; simp
      rw [mo _ _ (hn j u hj hm) (fun e => absurd e (h.ne j u hj hm)) (fun e => h.ne j u hj hm e.1) (fun e => h.ne j u hj hm e.2.1) (fun v hv e => by have := e.2; omega)]
      exact h.ta j p u r0 hj e0
    by_cases c : j = k
    · subst c
      rw [up_same] at e
      rcases snoc_split e with ⟨rfl, rfl, rfl⟩ | ⟨r0, rfl, e0⟩
      · exact m0
      · exact key r0 e0
    · rw [up_other _ _ c] at e
      exact key r e
  · by_cases c : j = k
    · subst c
      rw [up_same] at e
      rcases snoc_split e with ⟨rfl, rfl, rfl⟩ | ⟨r0, rfl, e0⟩
      · exact m1
      · have hm : u ∈ q j := by rw [e0]; simp
        cases r0 with
        | nil => exact ml u (by rw [e0]; simp)
        | cons x y =>
          rw [mo _ _ (hn j u hj hm) (fun e => absurd e (h.ne j u hj hm)) (fun e => h.ne j u hj hm e.1) (fun e => h.ne j u hj hm e.2.1) (fun v hv e1 => ?_)]
          · exact h.tb j p u (x :: y) hj e0
          · obtain ⟨p2, hp2⟩ := hlast v hv
            have := h.ds j p u (x :: y) j p2 v [] hj hj e0 hp2 e1.1
            simp at this
    · rw [up_other _ _ c] at e
      have hm : u ∈ q j := by rw [e]; simp
      rw [mo _ _ (hn j u hj hm) (fun e => absurd e (h.ne j u hj hm)) (fun e => h.ne j u hj hm e.1) (fun e => h.ne j u hj hm e.2.1) (fun v hv e1 => ?_)]
      · exact h.tb j p u r hj e
      · obtain ⟨p2, hp2⟩ := hlast v hv
        exact c (h.ds j p u r k p2 v [] hj hk e hp2 e1.1).1
  · have key : u ∈ q j → M' u.b 2 = some (.int .i64 u.a) ∧ M' u.b 3 = some (.int .i64 u.i) := fun hm => by
      rw [mo _ 2 (hn j u hj hm) (fun e => absurd e (h.ne j u hj hm)) (fun e => h.ne j u hj hm e.1) (fun e => h.ne j u hj hm e.2.1) (fun v hv e => by have := e.2; omega), mo _ 3 (hn j u hj hm) (fun e => absurd e (h.ne j u hj hm)) (fun e => h.ne j u hj hm e.1) (fun e => h.ne j u hj hm e.2.1) (fun v hv e => by have := e.2; omega)]
      exact h.tc j u hj hm
    by_cases c : j = k
    · subst c
      rw [up_same] at e
      rcases List.mem_append.1 e with e | e
      · exact key e
      · simp at e; subst e; exact ⟨m2, m3⟩
    · rw [up_other _ _ c] at e
      exact key e
  · by_cases c : j = k
    · subst c
      rw [up_same] at e
      rcases List.mem_append.1 e with e | e
      · exact h.ne j u hj e
      · simp at e; subst e; exact hb
    · rw [up_other _ _ c] at e
      exact h.ne j u hj e
  · have form : ∀ j p u r, j < 448 → up q k (q k ++ [t]) j = p ++ u :: r → (j = k ∧ r = [] ∧ p = q k ∧ u = t) ∨ (∃ r0, q j = p ++ u :: r0 ∧ ((j = k ∧ r = r0 ++ [t]) ∨ (j ≠ k ∧ r = r0))) := fun j p u r hj e => by
      by_cases c : j = k
      · subst c
        rw [up_same] at e
        rcases snoc_split e with ⟨rfl, rfl, rfl⟩ | ⟨r0, rfl, e0⟩
        · exact .inl ⟨rfl, rfl, rfl, rfl⟩
        · exact .inr ⟨r0, e0, .inl ⟨rfl, rfl⟩⟩
      · rw [up_other _ _ c] at e
        exact .inr ⟨r, e, .inr ⟨c, rfl⟩⟩
    rcases form j p u r hj e with ⟨rfl, rfl, rfl, rfl⟩ | ⟨r0, e0, c0⟩
    · rcases form j' p' u' r' hj' e' with ⟨rfl, rfl, rfl, rfl⟩ | ⟨r1, e1, c1⟩
      · exact ⟨rfl, rfl, rfl, rfl⟩
      · exact absurd hu.symm (hn j' u' hj' (by rw [e1]; simp))
    · rcases form j' p' u' r' hj' e' with ⟨rfl, rfl, rfl, rfl⟩ | ⟨r1, e1, c1⟩
      · exact absurd hu (hn j u hj (by rw [e0]; simp))
      · obtain ⟨rfl, rfl, rfl, rfl⟩ := h.ds j p u r0 j' p' u' r1 hj hj' e0 e1 hu
        refine ⟨rfl, rfl, rfl, ?_⟩
        rcases c0 with ⟨rfl, rfl⟩ | ⟨c0, rfl⟩ <;> rcases c1 with ⟨c1, rfl⟩ | ⟨c1, rfl⟩
        · rfl
        · exact absurd rfl c1
        · exact absurd c1 c0
        · rfl

theorem Ls.leave {M M' : Nat → Nat → Option Value} {b k : Nat} {q : Nat → List Tm} (h : Ls M b q) (hk : k < 448) (p0 : List Tm) (t : Tm) (r0 : List Tm) (e : q k = p0 ++ t :: r0)
    (m1 : p0 = [] → M' b (2 + 4 * k + 1) = some (pt (r0.head?.map Tm.b))) (m2 : ∀ u, p0.getLast? = some u → M' u.b 1 = some (pt (r0.head?.map Tm.b)))
    (m3 : r0 = [] → M' b (2 + 4 * k) = some (pt (p0.getLast?.map Tm.b))) (m4 : ∀ u, r0.head? = some u → M' u.b 0 = some (pt (p0.getLast?.map Tm.b)))
    (mo : ∀ B o, (B = b → o < 1794 ∧ (o % 4 = 2 ∨ o % 4 = 3)) → ¬ (p0 = [] ∧ B = b ∧ o = 2 + 4 * k + 1) → (∀ u, p0.getLast? = some u → ¬ (B = u.b ∧ o = 1)) → ¬ (r0 = [] ∧ B = b ∧ o = 2 + 4 * k) → (∀ u, r0.head? = some u → ¬ (B = u.b ∧ o = 0)) → M' B o = M B o) :
    Ls M' b (up q k (p0 ++ r0)) := by
  have pl : ∀ u, p0.getLast? = some u → ∃ p, q k = p ++ u :: (t :: r0) ∧ p0 = p ++ [u] := fun u hu => by
    obtain ⟨p, hp⟩ := List.getLast?_eq_some_iff.1 hu
    exact ⟨p, by rw [e, hp]; simp, hp⟩
  have rh : ∀ u, r0.head? = some u → ∃ r, q k = (p0 ++ [t]) ++ u :: r ∧ r0 = u :: r := fun u hu => by
    cases r0 with
    | nil => simp at hu
    | cons x r => simp at hu; subst hu; exact ⟨r, by rw [e]; simp, rfl⟩
  have pm : ∀ u, p0.getLast? = some u → u ∈ q k := fun u hu => by obtain ⟨p, hp, _⟩ := pl u hu; rw [hp]; simp
  have rm : ∀ u, r0.head? = some u → u ∈ q k := fun u hu => by obtain ⟨r, hr, _⟩ := rh u hu; rw [hr]; simp
  -- where a timer of the new slots stood
  have form : ∀ j p u r, j < 448 → up q k (p0 ++ r0) j = p ++ u :: r → (j ≠ k ∧ q j = p ++ u :: r) ∨ (j = k ∧ ∃ p1, p0 = p ++ u :: p1 ∧ r = p1 ++ r0 ∧ q k = p ++ u :: (p1 ++ t :: r0)) ∨ (j = k ∧ ∃ r1, r0 = r1 ++ u :: r ∧ p = p0 ++ r1 ∧ q k = (p0 ++ t :: r1) ++ u :: r) := fun j p u r hj e' => by
    by_cases c : j = k
    · subst c
      rw [up_same] at e'
      rcases mid_split e' with ⟨p1, h1, h2⟩ | ⟨r1, h1, h2⟩
      · exact .inr (.inl ⟨rfl, p1, h1, h2, by rw [e, h1]; simp⟩)
      · exact .inr (.inr ⟨rfl, r1, h1, h2, by rw [e, h1]; simp⟩)
    · rw [up_other _ _ c] at e'
      exact .inl ⟨c, e'⟩
  have old : ∀ j p u r, j < 448 → up q k (p0 ++ r0) j = p ++ u :: r → ∃ p' r', q j = p' ++ u :: r' := fun j p u r hj e' => by
    rcases form j p u r hj e' with ⟨_, h⟩ | ⟨rfl, p1, _, _, h⟩ | ⟨rfl, r1, _, _, h⟩
    · exact ⟨_, _, h⟩
    · exact ⟨_, _, h⟩
    · exact ⟨_, _, h⟩
  have mold : ∀ j u, j < 448 → u ∈ up q k (p0 ++ r0) j → u ∈ q j := fun j u hj hm => by
    obtain ⟨p, r, e'⟩ := List.append_of_mem hm
    obtain ⟨p', r', e2⟩ := old j p u r hj e'
    rw [e2]; simp
  refine ⟨fun j hj => ?_, fun j hj => ?_, fun j p u r hj e' => ?_, fun j p u r hj e' => ?_, fun j u hj e' => ?_, fun j u hj e' => h.ne j u hj (mold j u hj e'), fun j p u r j' p' u' r' hj hj' e1 e2 hu => ?_⟩
  · by_cases c : j = k
    · subst c; rw [up_same]
      by_cases hr : r0 = []
      · rw [m3 hr, hr]; simp
      · rw [mo _ _ (fun _ => ⟨by omega, by omega⟩) (fun e => by omega) (fun u hu e => h.ne j u hk (pm u hu) e.1.symm) (fun e => hr e.1) (fun u hu e => h.ne j u hk (rm u hu) e.1.symm), h.ah j hj, e]
        cases r0 with
        | nil => exact absurd rfl hr
        | cons x y => simp
    · rw [up_other _ _ c, mo _ _ (fun _ => ⟨by omega, by omega⟩) (fun e => by omega) (fun u hu e => h.ne k u hk (pm u hu) e.1.symm) (fun e => c (by omega)) (fun u hu e => h.ne k u hk (rm u hu) e.1.symm)]
      exact h.ah j hj
  · by_cases c : j = k
    · subst c; rw [up_same]
      by_cases hp : p0 = []
      · rw [m1 hp, hp]; simp
      · rw [mo _ _ (fun _ => ⟨by omega, by omega⟩) (fun e => hp e.1) (fun u hu e => h.ne j u hk (pm u hu) e.1.symm) (fun e => by omega) (fun u hu e => h.ne j u hk (rm u hu) e.1.symm), h.be j hj, e]
        cases p0 with
        | nil => exact absurd rfl hp
        | cons x y => simp
    · rw [up_other _ _ c, mo _ _ (fun _ => ⟨by omega, by omega⟩) (fun e => c (by omega)) (fun u hu e => h.ne k u hk (pm u hu) e.1.symm) (fun e => by omega) (fun u hu e => h.ne k u hk (rm u hu) e.1.symm)]
      exact h.be j hj
  · have key : ∀ P R, q j = P ++ u :: R → (∀ v, r0.head? = some v → ¬ (u.b = v.b)) → M' u.b 0 = some (pt (P.getLast?.map Tm.b)) := fun P R e0 hv => by
      have hm : u ∈ q j := by rw [e0]; simp
      rw [mo _ _ (fun e => absurd e (h.ne j u hj hm)) (fun e => h.ne j u hj hm e.2.1) (fun v _ e => by have := e.2; omega) (fun e => h.ne j u hj hm e.2.1) (fun v hv' e => hv v hv' e.1)]
      exact h.ta j P u R hj e0
    rcases form j p u r hj e' with ⟨c, e0⟩ | ⟨rfl, p1, h1, h2, e0⟩ | ⟨rfl, r1, h1, h2, e0⟩
    · refine key p r e0 (fun v hv hb => ?_)
      obtain ⟨r3, e3, _⟩ := rh v hv
      exact c (h.ds j p u r k _ v r3 hj hk e0 e3 hb).1
    · refine key p _ e0 (fun v hv hb => ?_)
      obtain ⟨r3, e3, _⟩ := rh v hv
      have := (h.ds j p u _ j _ v r3 hj hk e0 e3 hb).2.1
      rw [h1] at this
      have := congrArg List.length this
      simp at this
      all_goals omega
    · cases r1 with
      | nil =>
        rw [m4 u (by rw [h1]; simp), h2]; simp
      | cons x y =>
        have := key _ _ e0 (fun v hv hb => by
          obtain ⟨r3, e3, _⟩ := rh v hv
          have := (h.ds j _ u r j _ v r3 hj hk e0 e3 hb).2.1
          have := congrArg List.length this
          simp at this
          all_goals omega)
        rw [this, h2]; simp [List.getLast?_append]
  · have key : ∀ P R, q j = P ++ u :: R → (∀ v, p0.getLast? = some v → ¬ (u.b = v.b)) → M' u.b 1 = some (pt (R.head?.map Tm.b)) := fun P R e0 hv => by
      have hm : u ∈ q j := by rw [e0]; simp
      rw [mo _ _ (fun e => absurd e (h.ne j u hj hm)) (fun e => h.ne j u hj hm e.2.1) (fun v hv' e => hv v hv' e.1) (fun e => h.ne j u hj hm e.2.1) (fun v _ e => by have := e.2; omega)]
      exact h.tb j P u R hj e0
    rcases form j p u r hj e' with ⟨c, e0⟩ | ⟨rfl, p1, h1, h2, e0⟩ | ⟨rfl, r1, h1, h2, e0⟩
    · refine key p r e0 (fun v hv hb => ?_)
      obtain ⟨r3, e3, _⟩ := pl v hv
      exact c (h.ds j p u r k _ v _ hj hk e0 e3 hb).1
    · cases p1 with
      | nil =>
        rw [m2 u (by rw [h1]; simp), h2]; simp
      | cons x y =>
        have := key _ _ e0 (fun v hv hb => by
          obtain ⟨p3, e3, e4⟩ := pl v hv
          have := (h.ds j p u _ j _ v _ hj hk e0 e3 hb).2.2.2
          have := congrArg List.length this
          simp at this
          all_goals omega)
        rw [this, h2]; simp
    · refine key _ _ e0 (fun v hv hb => ?_)
      obtain ⟨p3, e3, e4⟩ := pl v hv
      have := (h.ds j _ u _ j _ v _ hj hk e0 e3 hb).2.1
      rw [e4] at this
      have := congrArg List.length this
      simp at this
      all_goals omega
  · have hm := mold j u hj e'
    rw [mo _ 2 (fun e => absurd e (h.ne j u hj hm)) (fun e => h.ne j u hj hm e.2.1) (fun v _ e => by have := e.2; omega) (fun e => h.ne j u hj hm e.2.1) (fun v _ e => by have := e.2; omega), mo _ 3 (fun e => absurd e (h.ne j u hj hm)) (fun e => h.ne j u hj hm e.2.1) (fun v _ e => by have := e.2; omega) (fun e => h.ne j u hj hm e.2.1) (fun v _ e => by have := e.2; omega)]
    exact h.tc j u hj hm
  · have form2 := form j p u r hj e1
    have form3 := form j' p' u' r' hj' e2
    rcases form2 with ⟨c, a1⟩ | ⟨rfl, p1, a1, a2, a3⟩ | ⟨rfl, r1, a1, a2, a3⟩ <;> rcases form3 with ⟨c', b1⟩ | ⟨c', p2, b1, b2, b3⟩ | ⟨c', r2, b1, b2, b3⟩
    · exact h.ds _ _ _ _ _ _ _ _ hj hj' a1 b1 hu
    · exact absurd ((h.ds _ _ _ _ _ _ _ _ hj hk a1 b3 hu).1) c
    · exact absurd ((h.ds _ _ _ _ _ _ _ _ hj hk a1 b3 hu).1) c
    · exact absurd ((h.ds _ _ _ _ _ _ _ _ hj hj' a3 b1 hu).1.symm) c'
    · obtain ⟨_, f2, f3, f4⟩ := h.ds _ _ _ _ _ _ _ _ hj hj a3 b3 hu
      refine ⟨c'.symm, f2, f3, ?_⟩
      subst f2 f3
      rw [a1] at b1
      have := List.append_cancel_left b1
      simp at this
      rw [a2, b2, this]
    · exfalso
      have f2 := (h.ds _ _ _ _ _ _ _ _ hj hj a3 b3 hu).2.1
      have := congrArg List.length f2
      rw [a1] at this
      simp at this
      all_goals omega
    · exact absurd ((h.ds _ _ _ _ _ _ _ _ hj hj' a3 b1 hu).1.symm) c'
    · exfalso
      have f2 := (h.ds _ _ _ _ _ _ _ _ hj hj a3 b3 hu).2.1
      have := congrArg List.length f2
      rw [b1] at this
      simp at this
      all_goals omega
    · obtain ⟨_, f2, f3, f4⟩ := h.ds _ _ _ _ _ _ _ _ hj hj a3 b3 hu
      refine ⟨c'.symm, ?_, f3, f4⟩
      have := List.append_cancel_left f2
      simp at this
      rw [a2, b2, this]
end Go.Proofs.YtignphkfknjllaaDoor
