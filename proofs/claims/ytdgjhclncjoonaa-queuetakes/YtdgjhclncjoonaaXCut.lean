/- A tree of no more depth than k is a tree of the type for k, with the same answers of the document's functions, and the same place in memory; and a tree whose blocks are known. No program. -/
import Derived.Test.YtdgjhclncjoonaaXVal
import Derived.Test.YtdgjhclncjoonaaXRf
namespace Go.Proofs.Ytdgjhclncjoonaa.Dt
open Go.RowKit
theorem ptsL_map {T : Type} (c : T → Int × Int) : ∀ (ks : List T) (p d : Int), ptsL c ks p d = ptsL id (ks.map c) p d
  | [], _, _ => rfl
  | t :: ts, p, d => by simp only [ptsL, List.map_cons, id]; exact ptsL_map c ts _ _
theorem ptsL_snd {T : Type} (c : T → Int × Int) : ∀ (ks : List T) (p d : Int), d + 1 ≤ (ptsL c ks p d).2 ∧ ∀ t ∈ ks, (c t).2 + 1 ≤ (ptsL c ks p d).2
  | [], p, d => ⟨Int.le_refl _, fun t ht => by cases ht⟩
  | t :: ts, p, d => by
    have I := ptsL_snd c ts (p + (c t).1) (max d (c t).2)
    simp only [ptsL]
    refine ⟨?_, fun t' ht => ?_⟩
    · have := I.1; omega
    · rcases List.mem_cons.1 ht with rfl | ht
      · have := I.1; omega
      · exact I.2 t' ht
theorem list_at {T : Type} (P : Nat → T → Prop) : ∀ (len : Nat), (∀ i, i < len → ∃ t, P i t) → ∃ l : List T, l.length = len ∧ ∀ i t, l[i]? = some t → P i t := by
  intro len
  induction len with
  | zero => intro _; exact ⟨[], rfl, fun i t h => by simp at h⟩
  | succ len ih =>
    intro h
    obtain ⟨l, hl, hp⟩ := ih (fun i hi => h i (by omega))
    obtain ⟨t, ht⟩ := h len (by omega)
    refine ⟨l ++ [t], by simp [hl], fun i t' hi => ?_⟩
    by_cases hlt : i < l.length
    · rw [List.getElem?_append_left hlt] at hi; exact hp i t' hi
    · rw [List.getElem?_append_right (by omega)] at hi
      have h0 : i - l.length = 0 := by
        by_cases h1 : i - l.length = 0
        · exact h1
        · rw [List.getElem?_eq_none (by simp; omega)] at hi; cases hi
      rw [h0] at hi
      simp at hi
      have : i = len := by omega
      subst this; subst hi; exact ht
theorem map_at {T U V : Type} (f : T → V) (g : U → V) (xs : List T) (ys : List U) (hl : ys.length = xs.length) (h : ∀ (i : Nat) (y : U) (x : T), ys[i]? = some y → xs[i]? = some x → g y = f x) : ys.map g = xs.map f := by
  apply List.ext_getElem
  · simp [hl]
  · intro i h1 h2
    simp only [List.getElem_map]
    exact h i _ _ (List.getElem?_eq_getElem (by simpa using h1)) (List.getElem?_eq_getElem (by simpa using h2))

theorem shrink : ∀ (k n : Nat) (t : Tr n), (pts n t).2 ≤ k → ∃ t' : Tr k, rgt k t' = rgt n t ∧ pts k t' = pts n t ∧ ∀ w cs, Rep w n cs t → Rep w k cs t' := by
  intro k
  induction k with
  | zero =>
    intro n t h
    match n, t, h with
    | 0, t, _ => exact t.elim
    | n + 1, t, h =>
      simp only [pts] at h
      have := (ptsL_snd (pts n) t.ks 1 0).1
      omega
  | succ k ih =>
    intro n t h
    match n, t, h with
    | 0, t, _ => exact t.elim
    | n + 1, t, h =>
      simp only [pts] at h
      have hd := (ptsL_snd (pts n) t.ks 1 0).2
      obtain ⟨ks, hl, hp⟩ := list_at (fun i (t' : Tr k) => ∀ x, t.ks[i]? = some x → rgt k t' = rgt n x ∧ pts k t' = pts n x ∧ ∀ w cs, Rep w n cs x → Rep w k cs t') t.ks.length (fun i hi => by
        obtain ⟨t', h'⟩ := ih n t.ks[i] (by have := hd _ (List.getElem_mem hi); omega)
        refine ⟨t', fun x hx => ?_⟩
        rw [List.getElem?_eq_getElem hi] at hx
        rw [← Option.some.inj hx]; exact h')
      refine ⟨((t.kd, t.it, t.ut, t.tx, ks) : Int × Int × Int × ByteArray × List (Tr k)), ?_, ?_, ?_⟩
      · have e1 : ks.map (rgt k) = t.ks.map (rgt n) := map_at _ _ _ _ hl fun i y x hy hx => (hp i y hy x hx).1
        have e2 : ks.all (rgt k) = t.ks.all (rgt n) := by
          have : (ks.map (rgt k)).all id = (t.ks.map (rgt n)).all id := by rw [e1]
          simpa [List.all_map] using this
        show (okB t.kd t.it t.ut t.tx.size ks.length && ks.all (rgt k)) = (okB t.kd t.it t.ut t.tx.size t.ks.length && t.ks.all (rgt n))
        rw [hl, e2]
      · have e1 : ks.map (pts k) = t.ks.map (pts n) := map_at _ _ _ _ hl fun i y x hy hx => (hp i y hy x hx).2.1
        show ptsL (pts k) ks 1 0 = ptsL (pts n) t.ks 1 0
        rw [ptsL_map, e1, ← ptsL_map]
      · intro w cs hr
        obtain ⟨ad, cap, h1, h2, h3, h4, h5⟩ := hr
        refine ⟨ad, cap, ?_, h2, ?_, h4, ?_⟩
        · show cs = [.int .i64 t.kd, .int .i64 t.it, .int .u64 t.ut, .string t.tx, .slice ad ks.length cap]
          rw [hl]; exact h1
        · show ks.length ≤ cap
          omega
        · rcases h5 with h5 | ⟨g, o, h6, h7⟩
          · left
            show ks = []
            rw [h5] at hl
            exact List.length_eq_zero_iff.1 hl
          · right
            refine ⟨g, o, h6, fun j t' hj => ?_⟩
            have hj' : ks[j]? = some t' := hj
            have hlt : j < t.ks.length := by have := (List.getElem?_eq_some_iff.1 hj').1; omega
            obtain ⟨v0, v1, v2, v3, v4, c0, c1, c2, c3, c4, r⟩ := h7 j _ (List.getElem?_eq_getElem hlt)
            exact ⟨v0, v1, v2, v3, v4, c0, c1, c2, c3, c4, (hp j t' hj' _ (List.getElem?_eq_getElem hlt)).2.2 w _ r⟩

end Go.Proofs.Ytdgjhclncjoonaa.Dt
