/- The plain theory of scanning, further: tokens' own bytes scanned again; no run of the model in this text. -/
import Derived.Test.YteohpiamfpnofabDoorSx
namespace Go.Proofs.YteohpiamfpnofabDoor

theorem txt_more : ∀ (n : Nat) (t : Bs), t.length ≤ n → ∀ p, txt t = some p → ∀ rest, txt (t.take p.2 ++ rest) = some p := by
  intro n
  induction n with
  | zero => intro t ht p h; cases t with
    | nil => simp [txt] at h
    | cons => simp at ht
  | succ n ih =>
    intro t ht p h rest
    cases t with
    | nil => simp [txt] at h
    | cons c t =>
      rw [txt.eq_def] at h
      simp only at h
      split at h
      · cases h
      rename_i h1
      split at h
      · rename_i h2
        simp at h; subst h
        show txt (c :: ([] ++ rest)) = _
        rw [txt.eq_def]
        simp only
        rw [if_neg h1, if_pos h2]
      rename_i h2
      split at h
      · rename_i h3
        cases e : txt t with
        | none => simp [e] at h
        | some q =>
          rw [e] at h; simp at h; subst h
          have := ih t (by simp at ht; omega) q e rest
          show txt (c :: (t.take q.2 ++ rest)) = _
          rw [txt.eq_def]
          simp only
          rw [if_neg h1, if_neg h2, if_pos h3, this]; rfl
      · rename_i h3
        cases t with
        | nil => simp at h
        | cons x t' =>
          simp only at h
          split at h
          · rename_i h4
            cases e : txt t' with
            | none => simp [e] at h
            | some q =>
              rw [e] at h; simp at h; subst h
              have := ih t' (by simp at ht; omega) q e rest
              show txt (c :: x :: (t'.take q.2 ++ rest)) = _
              rw [txt.eq_def]
              simp only
              rw [if_neg h1, if_neg h2, if_neg h3, if_pos h4, this]; rfl
          · rename_i h4
            match t', h, ht with
            | [], h, _ => simp at h
            | [_], h, _ => simp at h
            | y :: z :: t'', h, ht =>
              simp only at h
              split at h
              · rename_i h5
                cases e : txt t'' with
                | none => simp [e] at h
                | some q =>
                  rw [e] at h
                  have hp : (UInt8.ofNat (16 * hx y + hx z) :: q.1, q.2 + 4) = p := Option.some.inj h
                  subst hp
                  have := ih t'' (by simp at ht; omega) q e rest
                  show txt (c :: x :: y :: z :: (t''.take q.2 ++ rest)) = _
                  rw [txt.eq_def]
                  simp only
                  rw [if_neg h1, if_neg h2, if_neg h3, if_neg h4, if_pos h5, this]; rfl
              · cases h

theorem tw_more (P : UInt8 → Bool) (h32 : P 32 = false) : ∀ (r rest : Bs), (r.takeWhile P ++ 32 :: rest).takeWhile P = r.takeWhile P
  | [], rest => by simp [h32]
  | x :: t, rest => by
    rw [List.takeWhile_cons]
    split
    · rename_i hx
      rw [List.cons_append, List.takeWhile_cons, if_pos hx, tw_more P h32 t rest]
    · simp [h32]
theorem tw_is_take (P : UInt8 → Bool) : ∀ r : Bs, r.take (r.takeWhile P).length = r.takeWhile P
  | [] => rfl
  | x :: t => by
    rw [List.takeWhile_cons]
    split
    · simp [tw_is_take P t]
    · rfl

set_option maxHeartbeats 4000000 in
theorem mk_more (k : Nat) (h1 : 15 ≤ k) (h2 : k < 26) (rest : Bs) : mk (sp k ++ 32 :: rest) = k := by
  rcases (by omega : k = 15 ∨ k = 16 ∨ k = 17 ∨ k = 18 ∨ k = 19 ∨ k = 20 ∨ k = 21 ∨ k = 22 ∨ k = 23 ∨ k = 24 ∨ k = 25) with rfl | rfl | rfl | rfl | rfl | rfl | rfl | rfl | rfl | rfl | rfl <;> simp [mk, mkF, sp, spl, Lib.hasPrefix, List.isPrefixOf]
theorem mk_first (k : Nat) (h1 : 15 ≤ k) (h2 : k < 26) : ∃ x r, sp k = x :: r ∧ dig x = false ∧ ltr x = false ∧ x.toNat ≠ 34 ∧ blk x = false ∧ x.toNat ≠ 35 ∧ x.toNat ≠ 47 := by
  rcases (by omega : k = 15 ∨ k = 16 ∨ k = 17 ∨ k = 18 ∨ k = 19 ∨ k = 20 ∨ k = 21 ∨ k = 22 ∨ k = 23 ∨ k = 24 ∨ k = 25) with rfl | rfl | rfl | rfl | rfl | rfl | rfl | rfl | rfl | rfl | rfl <;> exact ⟨_, _, rfl, by decide, by decide, by decide, by decide, by decide, by decide⟩
theorem skip_first {x : UInt8} {t : Bs} (h1 : blk x = false) (h2 : x.toNat ≠ 35) (h3 : x.toNat ≠ 47) : skip (x :: t) = some 0 := by simp [skip, h1, h2, h3]

/-- A token's own bytes with a blank behind. -/
theorem one_more {r : Bs} {k m v : Nat} {s : Bs} (h : one r = .inr (k, m, v, s)) (rest : Bs) : skip (r.take m ++ 32 :: rest) = some 0 ∧ one (r.take m ++ 32 :: rest) = .inr (k, m, v, s) := by
  have hlen := one_len _ _ _ _ _ h
  cases r with
  | nil => simp [one] at h
  | cons b t =>
    simp only [one] at h
    split at h
    · rename_i hd
      have hm : m = ((b :: t).takeWhile dig).length := by
        unfold numT numO at h
        split at h
        · cases h
        · split at h <;> cases h
          rfl
      have e1 : (b :: t).take m = (b :: t).takeWhile dig := by rw [hm, tw_is_take]
      obtain ⟨d, hd2⟩ : ∃ d, (b :: t).takeWhile dig = b :: d := by rw [List.takeWhile_cons, if_pos hd]; exact ⟨_, rfl⟩
      have e2 := tw_more dig (by decide) (b :: t) rest
      rw [e1]
      have hd3 := hd
      unfold dig at hd3
      simp only [decide_eq_true_eq] at hd3
      constructor
      · rw [hd2, List.cons_append]
        exact skip_first (by unfold blk; simp; omega) (by omega) (by omega)
      · rw [hd2, List.cons_append] at e2 ⊢
        simp only [one]
        rw [if_pos hd, e2, ← hd2]
        exact h
    · rename_i hd
      split at h
      · rename_i hl
        have hm : m = ((b :: t).takeWhile wch).length := by
          unfold wrdT at h
          split at h <;> cases h
          rfl
        have e1 : (b :: t).take m = (b :: t).takeWhile wch := by rw [hm, tw_is_take]
        obtain ⟨d, hd2⟩ : ∃ d, (b :: t).takeWhile wch = b :: d := by rw [List.takeWhile_cons, if_pos (by simp [wch, hl])]; exact ⟨_, rfl⟩
        have e2 := tw_more wch (by decide) (b :: t) rest
        rw [e1]
        have hl3 := hl
        unfold ltr at hl3
        simp only [decide_eq_true_eq] at hl3
        constructor
        · rw [hd2, List.cons_append]
          exact skip_first (by unfold blk; simp; omega) (by omega) (by omega)
        · rw [hd2, List.cons_append] at e2 ⊢
          simp only [one]
          rw [if_neg hd, if_pos hl, e2, ← hd2]
          exact h
      · rename_i hl
        split at h
        · rename_i hq
          unfold txtT at h
          cases e : txt t with
          | none => rw [e] at h; cases h
          | some p =>
            rw [e] at h
            simp only [Sum.inr.injEq, Prod.mk.injEq] at h
            obtain ⟨h1, h2, h3, h4⟩ := h
            subst h2
            have e3 := txt_more t.length t (Nat.le_refl _) p e (32 :: rest)
            rw [List.take_succ_cons, List.cons_append]
            constructor
            · exact skip_first (by unfold blk; simp; omega) (by omega) (by omega)
            · simp only [one]
              rw [if_neg hd, if_neg hl, if_pos hq]
              unfold txtT
              rw [e3]
              simp [h1, h3, h4]
        · rename_i hq
          unfold mrkT at h
          split at h
          · cases h
          · rename_i hk
            have hm := mkF_or (b :: t) 11 15 0
            change mk (b :: t) = 0 ∨ _ at hm
            have hm2 : 15 ≤ mk (b :: t) ∧ mk (b :: t) < 15 + 11 ∧ Lib.hasPrefix (b :: t) (sp (mk (b :: t))) = true := hm.resolve_left hk
            simp only [Sum.inr.injEq, Prod.mk.injEq] at h
            obtain ⟨h1, h2, h3, h4⟩ := h
            have hp : (b :: t).take m = sp (mk (b :: t)) := by
              rw [← h2]
              exact (List.prefix_iff_eq_take.1 (List.isPrefixOf_iff_prefix.1 hm2.2.2)).symm
            rw [hp]
            generalize mk (b :: t) = K at *
            obtain ⟨x, r, hx, g1, g2, g3, g4, g5, g6⟩ := mk_first K (by omega) (by omega)
            have hmm := mk_more K (by omega) (by omega) rest
            constructor
            · rw [hx, List.cons_append]; exact skip_first g4 g5 g6
            · rw [hx, List.cons_append] at hmm ⊢
              simp only [one]
              rw [if_neg (by simp [g1]), if_neg (by simp [g2]), if_neg g3]
              unfold mrkT
              rw [hmm, if_neg hk, h2, h1, h3, h4]

/-- A token's own bytes, a blank behind each. -/
def cat (l : Bs) (ts : List Tok) : Bs := ts.flatMap fun t => (l.drop t.pos).take (t.fin - t.pos) ++ [32]
def Alike (a b : List Tok) : Prop := a.map (fun t => (t.kind, t.num, t.text)) = b.map fun t => (t.kind, t.num, t.text)

theorem cat_ans (l : Bs) : ∀ (ts : List Tok) (p : Nat) (q : Nat) (acc : List Tok), Chain (l.drop p) p ts → acc.length + ts.length ≤ 16384 → ∃ ts', ans (cat l ts) q acc = .inr (acc ++ ts') ∧ Alike ts' ts
  | [], p, q, acc, _, _ => ⟨[], by simp [cat, ans_nil], rfl⟩
  | t :: ts, p, q, acc, hc, hl => by
    obtain ⟨g, m, h1, h2, h3, h4, h5, h6, h7, h8⟩ := hc
    rw [List.drop_drop] at h7 h8
    have hb : (l.drop t.pos).take (t.fin - t.pos) = (l.drop (p + g)).take m := by rw [h1, h2, show p + g + m - (p + g) = m by omega]
    have hcat : cat l (t :: ts) = (l.drop (p + g)).take m ++ 32 :: cat l ts := by
      unfold cat
      rw [List.flatMap_cons, hb, List.append_assoc]; rfl
    have hml : ((l.drop (p + g)).take m).length = m := by
      rw [List.length_drop] at h4
      simp; omega
    obtain ⟨s1, s2⟩ := one_more h7 (cat l ts)
    rw [hcat]
    rw [ans_tok s1 s2, if_neg (by simp at hl; omega)]
    have hd : ((l.drop (p + g)).take m ++ 32 :: cat l ts).drop m = 32 :: cat l ts := by
      rw [List.drop_append, hml]
      simp
    rw [hd]
    have hsk : skip (32 :: cat l ts) = some 1 := by simp [skip, blk]
    rw [ans_skip hsk]
    have h8' : Chain (l.drop (p + (g + m))) (p + (g + m)) ts := by rw [show p + g + m = p + (g + m) by omega] at h8; exact h8
    obtain ⟨ts', e1, e2⟩ := cat_ans l ts (p + (g + m)) (q + m + (0 + 1)) (acc ++ [⟨t.kind, q, q + m, t.num, t.text⟩]) h8' (by simp at hl ⊢; omega)
    refine ⟨⟨t.kind, q, q + m, t.num, t.text⟩ :: ts', ?_, ?_⟩
    · show ans ((32 :: cat l ts).drop 1) _ _ = _
      simpa using e1
    · unfold Alike at e2 ⊢
      simp [e2]
end Go.Proofs.YteohpiamfpnofabDoor
