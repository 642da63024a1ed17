/- How a tree in memory turns: a number more or less at one path, a node more or less below one path; no condition but those that each theorem names. -/
import Derived.Test.YtcnglhlljmfanaaGreatDoorKb
namespace Go.Proofs.YtcnglhlljmfanaaGreatDoor
open Go.RowKit Tp Go.Maps

/-- The same nodes at the same places. -/
def Sme (nd nd' : Pth → Option Nd) : Prop := ∀ q, (nd' q).map Nd.a = (nd q).map Nd.a
/-- The blocks of a tree. -/
def Bl (own : Nat → Option (Pth × Nat)) (k : Nat) : Prop := own k ≠ none
/-- Its blocks are its elder ones, or new. -/
def Gro (w : World) (own own' : Nat → Option (Pth × Nat)) : Prop := ∀ k, Bl own' k → Bl own k ∨ w.heap.size ≤ k

theorem Gro.refl (w : World) (own : Nat → Option (Pth × Nat)) : Gro w own own := fun _ h => .inl h
theorem Gro.trans {w w' : World} {o o' o'' : Nat → Option (Pth × Nat)} (h : Gro w o o') (h' : Gro w' o' o'') (hs : w.heap.size ≤ w'.heap.size) : Gro w o o'' := fun k hk => by
  rcases h' k hk with h1 | h1
  · exact h k h1
  · exact .inr (Nat.le_trans hs h1)
theorem Sme.refl (nd : Pth → Option Nd) : Sme nd nd := fun _ => rfl
theorem Sme.trans {a b c : Pth → Option Nd} (h : Sme a b) (h' : Sme b c) : Sme a c := fun q => (h' q).trans (h q)

theorem map_none {α β : Type} {f : α → β} {o : Option α} : o.map f = none ↔ o = none := by cases o <;> simp

section
variable {w w' : World} {nd : Pth → Option Nd} {own : Nat → Option (Pth × Nat)} {S S' : Pth → Int → Bool} {K K' : Nat} {p : Pth} {n : Nd} {C : Nat → Prop}

/-- Two blocks of one owner are one place's. -/
theorem own_ne {q : Pth} {j j' k k' : Nat} (h : own k = some (q, j)) (h' : own k' = some (p, j')) (hne : q ≠ p) : k ≠ k' := by
  rintro rfl; rw [h] at h'; cases h'; exact hne rfl
theorem own_nj {q : Pth} {j j' k k' : Nat} (h : own k = some (q, j)) (h' : own k' = some (p, j')) (hne : j ≠ j') : k ≠ k' := by
  rintro rfl; rw [h] at h'; cases h'; exact hne rfl

theorem G.num1 (g : G w nd own S K) (hp : nd p = some n) (hB : But C w w') (hC : ∀ k, C k → k = n.a ∨ n.x = some k) (x' : Option Nat)
    (hx : x' = n.x ∨ (n.x = none ∧ ∃ b, x' = some b ∧ w.heap.size ≤ b ∧ b < w'.heap.size))
    (hcell : w'.heap[n.a]? = some (.cells #[.map x', .map n.y] 39 (0, 0))) (hK : K ≤ K') (hnum : SetAt w' x' (S' p) K') (hS : ∀ q, q ≠ p → S' q = S q) :
    ∃ nd' own', G w' nd' own' S' K' ∧ Sme nd nd' ∧ Gro w own own' := by
  have hca : ∀ k q j, q ≠ p → own k = some (q, j) → ¬ C k := fun k q j hq ho c => by
    rcases hC k c with e | e
    · exact own_ne ho (g.oa p n hp) hq e
    · exact own_ne ho (g.ox p n k hp e) hq rfl
  have hxo : ∀ k, x' = some k → own k = some (p, 1) ∨ (own k = none ∧ w.heap.size ≤ k) := fun k e => by
    rcases hx with h | ⟨h1, b, h2, h3, h4⟩
    · exact .inl (g.ox p n k hp (h ▸ e))
    · rw [e] at h2; cases h2
      refine .inr ⟨?_, h3⟩
      cases ho : own k with
      | none => rfl
      | some z => exact absurd (g.lt k (by rw [ho]; simp)) (by omega)
  have hsm : Sme nd (fun q => if q = p then some ⟨n.a, x', n.y⟩ else nd q) := fun q => by
    by_cases e : q = p
    · subst e; simp [hp]
    · simp [e]
  have hno : ∀ q, (if q = p then some (⟨n.a, x', n.y⟩ : Nd) else nd q) = none ↔ nd q = none := fun q => by rw [← map_none (f := Nd.a), hsm q, map_none]
  have hkeep : ∀ k z, own k = some z → (∀ b, x' = some b → b = k → z = (p, 1)) → (if x' = some k then some (p, 1) else own k) = some z := fun k z ho hz => by
    by_cases e : x' = some k
    · rw [if_pos e, hz k e rfl]
    · rw [if_neg e, ho]
  have hkp : ∀ k z, own k = some z → (if x' = some k then some (p, 1) else own k) = some z := fun k z ho => hkeep k z ho fun b e e' => by
    subst e'
    rcases hxo b e with h | ⟨h, _⟩
    · rw [ho] at h; exact Option.some.inj h
    · rw [ho] at h; cases h
  refine ⟨fun q => if q = p then some ⟨n.a, x', n.y⟩ else nd q, fun k => if x' = some k then some (p, 1) else own k, ?_, hsm, ?_⟩
  · constructor
    · intro q m hq
      by_cases e : q = p
      · subst e; simp only [if_true, Option.some.injEq] at hq; subst hq; exact hcell
      · simp only [if_neg e] at hq; exact hB.at (g.cell q m hq) (hca _ _ _ e (g.oa q m hq))
    · intro q m hq
      by_cases e : q = p
      · subst e; simp only [if_true, Option.some.injEq] at hq; subst hq; exact hkp n.a _ (g.oa _ n hp)
      · simp only [if_neg e] at hq; exact hkp _ _ (g.oa q m hq)
    · intro q m b hq hb
      by_cases e : q = p
      · subst e; simp only [if_true, Option.some.injEq] at hq; subst hq; exact if_pos hb
      · simp only [if_neg e] at hq; exact hkp _ _ (g.ox q m b hq hb)
    · intro q m b hq hb
      by_cases e : q = p
      · subst e; simp only [if_true, Option.some.injEq] at hq; subst hq; exact hkp _ _ (g.oy _ _ _ hp hb)
      · simp only [if_neg e] at hq; exact hkp _ _ (g.oy q m b hq hb)
    · intro q m hq
      by_cases e : q = p
      · subst e; simp only [if_true, Option.some.injEq] at hq; subst hq; exact hnum
      · simp only [if_neg e] at hq
        rw [hS q e]
        exact ((g.num q m hq).but hB (fun b hb => hca _ _ _ e (g.ox q m b hq hb))).mono hK
    · intro q m hq
      have hk : (fun l => ((fun q => if q = p then some (⟨n.a, x', n.y⟩ : Nd) else nd q) (q ++ [l])).map Nd.a) = fun l => (nd (q ++ [l])).map Nd.a := funext fun l => hsm (q ++ [l])
      rw [hk]
      by_cases e : q = p
      · subst e; simp only [if_true, Option.some.injEq] at hq; subst hq
        exact ((g.bel _ _ hp).but hB (fun b hb c => by
          have ho := g.oy _ _ b hp hb
          rcases hC b c with e | e
          · exact own_nj ho (g.oa _ _ hp) (by decide) e
          · exact own_nj ho (g.ox _ _ b hp e) (by decide) rfl)).mono hK
      · simp only [if_neg e] at hq
        exact ((g.bel q m hq).but hB (fun b hb => hca _ _ _ e (g.oy q m b hq hb))).mono hK
    · intro b hb
      by_cases e : x' = some b
      · rcases hx with h | ⟨h1, b', h2, h3, h4⟩
        · exact Nat.lt_of_lt_of_le (g.lt b (by rw [g.ox p n b hp (h ▸ e)]; simp)) hB.size
        · rw [e] at h2; cases h2; exact h4
      · simp only [if_neg e] at hb; exact Nat.lt_of_lt_of_le (g.lt b hb) hB.size
    · intro q l h h0
      rw [hno] at h0
      exact g.up q l (fun h1 => h ((hno _).2 h1)) h0
    · intro q i h
      rw [hno] at h
      have e : q ≠ p := fun e => by subst e; rw [hp] at h; cases h
      rw [hS q e]; exact g.non q i h
  · intro k hk
    by_cases e : x' = some k
    · rcases hxo k e with h | ⟨_, h⟩
      · left; show own k ≠ none; rw [h]; simp
      · exact .inr h
    · left; simpa [Bl, e] using hk

/-- A new node, without numbers and without nodes below it, one level on. -/
theorem G.link (g : G w nd own S K) (hp : nd p = some n) (hB : But C w w') (hC : ∀ k, C k → k = n.a ∨ n.y = some k) (y' : Nat) (l : Bs) (c : Nat)
    (hy : n.y = some y' ∨ (n.y = none ∧ w.heap.size ≤ y' ∧ y' < w'.heap.size)) (hc : w.heap.size ≤ c) (hcy : c ≠ y') (hl : nd (p ++ [l]) = none)
    (hcell : w'.heap[n.a]? = some (.cells #[.map n.x, .map (some y')] 39 (0, 0))) (hnew : w'.heap[c]? = some (.cells #[.map none, .map none] 39 (0, 0))) (hK : K ≤ K')
    (hbel : KidsAt w' (some y') (fun k => if k = l then some c else (nd (p ++ [k])).map Nd.a) K') :
    ∃ nd' own', G w' nd' own' S K' ∧ (∀ q, q ≠ p ++ [l] → (nd' q).map Nd.a = (nd q).map Nd.a) ∧ nd' (p ++ [l]) = some ⟨c, none, none⟩ ∧ Gro w own own' := by
  have hcl : c < w'.heap.size := (Array.getElem?_eq_some_iff.1 hnew).1
  have hpl : p ≠ p ++ [l] := fun e => by have := congrArg List.length e; simp at this
  have fresh : ∀ k, w.heap.size ≤ k → own k = none := fun k hk => by
    cases ho : own k with
    | none => rfl
    | some z => exact absurd (g.lt k (by rw [ho]; simp)) (by omega)
  have hca : ∀ k q j, q ≠ p → own k = some (q, j) → ¬ C k := fun k q j hq ho c => by
    rcases hC k c with e | e
    · exact own_ne ho (g.oa p n hp) hq e
    · exact own_ne ho (g.oy p n k hp e) hq rfl
  have hleaf : ∀ k, nd (p ++ [l] ++ [k]) = none := fun k => by
    cases h : nd (p ++ [l] ++ [k]) with
    | none => rfl
    | some z => exact absurd hl (g.up _ _ (by rw [h]; simp))
  let nd' : Pth → Option Nd := fun q => if q = p then some ⟨n.a, n.x, some y'⟩ else if q = p ++ [l] then some ⟨c, none, none⟩ else nd q
  let own' : Nat → Option (Pth × Nat) := fun k => if k = c then some (p ++ [l], 0) else if k = y' then some (p, 2) else own k
  have ndp : nd' p = some ⟨n.a, n.x, some y'⟩ := if_pos rfl
  have ndl : nd' (p ++ [l]) = some ⟨c, none, none⟩ := (if_neg (fun e => hpl e.symm)).trans (if_pos rfl)
  have ndo : ∀ q, q ≠ p → q ≠ p ++ [l] → nd' q = nd q := fun q h1 h2 => (if_neg h1).trans (if_neg h2)
  have hsm : ∀ q, q ≠ p ++ [l] → (nd' q).map Nd.a = (nd q).map Nd.a := fun q h => by
    by_cases e : q = p
    · subst e; rw [ndp, hp]; rfl
    · rw [ndo q e h]
  have hyo : own y' = some (p, 2) ∨ own y' = none := by
    rcases hy with h | ⟨_, h, _⟩
    · exact .inl (g.oy p n y' hp h)
    · exact .inr (fresh _ h)
  have hkp : ∀ k z, own k = some z → own' k = some z := fun k z ho => by
    have h1 : k ≠ c := fun e => by rw [e, fresh c hc] at ho; cases ho
    show (if k = c then _ else if k = y' then _ else own k) = some z
    rw [if_neg h1]
    by_cases h2 : k = y'
    · rw [if_pos h2]
      subst h2
      rcases hyo with h | h
      · rw [h] at ho; exact ho
      · rw [h] at ho; cases ho
    · rw [if_neg h2, ho]
  have hcase : ∀ q m, nd' q = some m → (q = p ∧ m = ⟨n.a, n.x, some y'⟩) ∨ (q = p ++ [l] ∧ m = ⟨c, none, none⟩) ∨ (q ≠ p ∧ q ≠ p ++ [l] ∧ nd q = some m) := fun q m h => by
    by_cases h1 : q = p
    · subst h1; rw [ndp] at h; exact .inl ⟨rfl, (Option.some.inj h).symm⟩
    · by_cases h2 : q = p ++ [l]
      · subst h2; rw [ndl] at h; exact .inr (.inl ⟨rfl, (Option.some.inj h).symm⟩)
      · rw [ndo q h1 h2] at h; exact .inr (.inr ⟨h1, h2, h⟩)
  refine ⟨nd', own', ?_, hsm, ndl, ?_⟩
  · constructor
    · intro q m hq
      rcases hcase q m hq with ⟨rfl, rfl⟩ | ⟨rfl, rfl⟩ | ⟨h1, h2, h3⟩
      · exact hcell
      · exact hnew
      · exact hB.at (g.cell q m h3) (hca _ _ _ h1 (g.oa q m h3))
    · intro q m hq
      rcases hcase q m hq with ⟨rfl, rfl⟩ | ⟨rfl, rfl⟩ | ⟨h1, h2, h3⟩
      · exact hkp n.a _ (g.oa _ n hp)
      · exact if_pos rfl
      · exact hkp _ _ (g.oa q m h3)
    · intro q m b hq hb
      rcases hcase q m hq with ⟨rfl, rfl⟩ | ⟨rfl, rfl⟩ | ⟨h1, h2, h3⟩
      · exact hkp _ _ (g.ox _ _ b hp hb)
      · cases hb
      · exact hkp _ _ (g.ox q m b h3 hb)
    · intro q m b hq hb
      rcases hcase q m hq with ⟨rfl, rfl⟩ | ⟨rfl, rfl⟩ | ⟨h1, h2, h3⟩
      · cases hb; exact (if_neg (fun e => hcy e.symm)).trans (if_pos rfl)
      · cases hb
      · exact hkp _ _ (g.oy q m b h3 hb)
    · intro q m hq
      rcases hcase q m hq with ⟨rfl, rfl⟩ | ⟨rfl, rfl⟩ | ⟨h1, h2, h3⟩
      · exact ((g.num _ _ hp).but hB (fun b hb c => by
          have ho := g.ox _ _ b hp hb
          rcases hC b c with e | e
          · exact own_nj ho (g.oa _ _ hp) (by decide) e
          · exact own_nj ho (g.oy _ _ b hp e) (by decide) rfl)).mono hK
      · exact fun i => g.non _ i hl
      · exact ((g.num q m h3).but hB (fun b hb => hca _ _ _ h1 (g.ox q m b h3 hb))).mono hK
    · intro q m hq
      rcases hcase q m hq with ⟨rfl, rfl⟩ | ⟨rfl, rfl⟩ | ⟨h1, h2, h3⟩
      · have hk : (fun k => (nd' (q ++ [k])).map Nd.a) = fun k => if k = l then some c else (nd (q ++ [k])).map Nd.a := funext fun k => by
          by_cases e : k = l
          · subst e; rw [ndl, if_pos rfl]; rfl
          · rw [if_neg e]; exact hsm _ (fun e' => e (by simpa using e'))
        rw [hk]; exact hbel
      · intro k
        show (nd' (p ++ [l] ++ [k])).map Nd.a = none
        rw [hsm _ (fun e => by have := congrArg List.length e; simp at this), hleaf k]; rfl
      · have hk : (fun k => (nd' (q ++ [k])).map Nd.a) = fun k => (nd (q ++ [k])).map Nd.a := funext fun k => hsm _ (fun e => h1 (by simpa using (List.append_inj' e rfl).1))
        rw [hk]
        exact ((g.bel q m h3).but hB (fun b hb => hca _ _ _ h1 (g.oy q m b h3 hb))).mono hK
    · intro b hb
      by_cases h1 : b = c
      · rw [h1]; exact hcl
      · by_cases h2 : b = y'
        · subst h2
          rcases hy with h | ⟨_, _, h⟩
          · exact Nat.lt_of_lt_of_le (g.lt b (by rw [g.oy p n b hp h]; simp)) hB.size
          · exact h
        · refine Nat.lt_of_lt_of_le (g.lt b ?_) hB.size
          have : own' b = own b := (if_neg h1).trans (if_neg h2)
          rwa [this] at hb
    · intro q k h h0
      by_cases h1 : q = p
      · subst h1; rw [ndp] at h0; cases h0
      by_cases h2 : q = p ++ [l]
      · subst h2; rw [ndl] at h0; cases h0
      rw [ndo q h1 h2] at h0
      have h3 : q ++ [k] ≠ p ++ [l] := fun e => h1 (by simpa using (List.append_inj' e rfl).1)
      refine g.up q k (fun h4 => h ?_) h0
      rw [← map_none (f := Nd.a), hsm _ h3, h4]; rfl
    · intro q i h
      by_cases h1 : q = p
      · subst h1; rw [ndp] at h; cases h
      by_cases h2 : q = p ++ [l]
      · subst h2; rw [ndl] at h; cases h
      rw [ndo q h1 h2] at h; exact g.non q i h
  · intro k hk
    by_cases h1 : k = c
    · exact .inr (h1 ▸ hc)
    · by_cases h2 : k = y'
      · subst h2
        rcases hy with h | ⟨_, h, _⟩
        · left; show own k ≠ none; rw [g.oy p n k hp h]; simp
        · exact .inr h
      · left
        have : own' k = own k := (if_neg h1).trans (if_neg h2)
        show own k ≠ none
        rw [← this]; exact hk

/-- A node that has no numbers and no nodes below it goes. -/
theorem G.cut (g : G w nd own S K) (hp : nd p = some n) (hB : But C w w') (hC : ∀ k, C k → n.y = some k) (y' : Nat) (l : Bs) (hy : n.y = some y') (hS : ∀ i, S (p ++ [l]) i = false) (hleaf : ∀ k, nd (p ++ [l] ++ [k]) = none)
    (hbel : KidsAt w' (some y') (fun k => if k = l then none else (nd (p ++ [k])).map Nd.a) K) :
    ∃ nd', G w' nd' own S K ∧ (∀ q, q ≠ p ++ [l] → nd' q = nd q) ∧ nd' (p ++ [l]) = none := by
  have hca : ∀ k q j, q ≠ p → own k = some (q, j) → ¬ C k := fun k q j hq ho c => own_ne ho (g.oy p n k hp (hC k c)) hq rfl
  let nd' : Pth → Option Nd := fun q => if q = p ++ [l] then none else nd q
  have ndl : nd' (p ++ [l]) = none := if_pos rfl
  have ndo : ∀ q, q ≠ p ++ [l] → nd' q = nd q := fun q h => if_neg h
  have hcase : ∀ q m, nd' q = some m → q ≠ p ++ [l] ∧ nd q = some m := fun q m h => by
    by_cases e : q = p ++ [l]
    · subst e; rw [ndl] at h; cases h
    · rw [ndo q e] at h; exact ⟨e, h⟩
  refine ⟨nd', ?_, ndo, ndl⟩
  constructor
  · intro q m hq
    obtain ⟨_, h⟩ := hcase q m hq
    refine hB.at (g.cell q m h) (fun c => own_nj (g.oa q m h) (g.oy p n _ hp (hC _ c)) (by decide) rfl)
  · intro q m hq; exact g.oa q m (hcase q m hq).2
  · intro q m b hq hb; exact g.ox q m b (hcase q m hq).2 hb
  · intro q m b hq hb; exact g.oy q m b (hcase q m hq).2 hb
  · intro q m hq
    have h := (hcase q m hq).2
    exact (g.num q m h).but hB (fun b hb c => own_nj (g.ox q m b h hb) (g.oy p n _ hp (hC _ c)) (by decide) rfl)
  · intro q m hq
    obtain ⟨h1, h⟩ := hcase q m hq
    by_cases e : q = p
    · subst e
      rw [hp] at h; cases h
      have hk : (fun k => (nd' (q ++ [k])).map Nd.a) = fun k => if k = l then none else (nd (q ++ [k])).map Nd.a := funext fun k => by
        by_cases e : k = l
        · subst e; rw [ndl, if_pos rfl]; rfl
        · rw [if_neg e, ndo _ (fun e' => e (by simpa using e'))]
      rw [hk, hy]; exact hbel
    · have hk : (fun k => (nd' (q ++ [k])).map Nd.a) = fun k => (nd (q ++ [k])).map Nd.a := funext fun k => by
        rw [ndo _ (fun e' => e (by simpa using (List.append_inj' e' rfl).1))]
      rw [hk]
      exact (g.bel q m h).but hB (fun b hb => hca _ _ _ e (g.oy q m b h hb))
  · intro b hb; exact Nat.lt_of_lt_of_le (g.lt b hb) hB.size
  · intro q k h h0
    have h3 : q ++ [k] ≠ p ++ [l] := fun e => by rw [e, ndl] at h; exact h rfl
    rw [ndo _ h3] at h
    by_cases e : q = p ++ [l]
    · subst e; exact h (hleaf k)
    · rw [ndo q e] at h0; exact g.up q k h h0
  · intro q i h
    by_cases e : q = p ++ [l]
    · subst e; exact hS i
    · rw [ndo q e] at h; exact g.non q i h
end
end Go.Proofs.YtcnglhlljmfanaaGreatDoor
