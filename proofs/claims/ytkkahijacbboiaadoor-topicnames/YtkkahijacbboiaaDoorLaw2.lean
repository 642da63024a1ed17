/- The law TopicNames at every two texts: a name is a filter that has just itself; what is asked of the world: the two tables of unicode/utf8 as their text lays them. -/
import Derived.Test.YtkkahijacbboiaaDoorLaw1
import Derived.Test.YtkkahijacbboiaaDoorTn
namespace Go.Proofs.YtkkahijacbboiaaDoor
open Go.RowKit Tp

theorem plain_lv {a : Bs} (h : wc a = false) : ∀ x ∈ lvs a, x ≠ ha ∧ x ≠ pl := by
  intro x hx
  have := wc_lvs h x hx
  constructor <;> (rintro rfl; exact absurd this (by decide))

theorem cov_plain : ∀ (A B : List Bs), (∀ x ∈ A, x ≠ ha ∧ x ≠ pl) → (∀ x ∈ B, x ≠ ha) → cov A B = decide (A = B)
  | [], [], _, _ => rfl
  | [], y :: B, _, _ => rfl
  | x :: A, [], hA, _ => by simp [cov, (hA x (by simp)).1]
  | x :: A, y :: B, hA, hB => by
    have ih := cov_plain A B (fun z hz => hA z (List.mem_cons_of_mem _ hz)) (fun z hz => hB z (List.mem_cons_of_mem _ hz))
    have hx := hA x (by simp)
    have hy := hB y (by simp)
    by_cases h : x = y
    · subst h; simp [cov, hx.1, ih]
    · simp [cov, hx.1, hx.2, hy, h]

theorem srch_plain : ∀ (A B : List Bs), (∀ x ∈ A, x ≠ ha ∧ x ≠ pl) → (∀ x ∈ B, x ≠ ha ∧ x ≠ pl) → srch A B = if A = B then some A else none
  | [], [], _, _ => rfl
  | [], y :: B, _, hB => by simp [srch, (hB y (by simp)).1]
  | x :: A, [], hA, _ => by simp [srch, (hA x (by simp)).1]
  | x :: A, y :: B, hA, hB => by
    have ih := srch_plain A B (fun z hz => hA z (List.mem_cons_of_mem _ hz)) (fun z hz => hB z (List.mem_cons_of_mem _ hz))
    have hx := hA x (by simp)
    have hy := hB y (by simp)
    by_cases h : x = y
    · subst h
      by_cases h2 : A = B
      · subst h2; simp [srch, hx.1, hx.2, ih]
      · simp [srch, hx.1, hx.2, ih, h2]
    · simp [srch, hx.1, hx.2, hy.1, hy.2, h]

theorem nmL_plain : ∀ (A : List Bs), (∀ x ∈ A, x ≠ ha ∧ x ≠ pl) → nmL A = A
  | [], _ => rfl
  | x :: A, h => by
    have hx := h x (by simp)
    rw [nmL, if_neg hx.1, if_neg hx.2, nmL_plain A (fun z hz => h z (List.mem_cons_of_mem _ hz))]

theorem name_parts {a : Bs} (h : isName a = true) : wc a = false ∧ a ≠ [] ∧ a.length ≤ 65535 := by
  simp only [isName, okText, Bool.and_eq_true, decide_eq_true_eq, Bool.not_eq_true'] at h
  exact ⟨h.2, h.1.1.1.1, h.1.1.1.2⟩

theorem covers_names {a b : Bs} (ha' : isName a = true) (hb : isName b = true) : covers a b = decide (a = b) := by
  obtain ⟨a1, a2, a3⟩ := name_parts ha'
  obtain ⟨b1, b2, b3⟩ := name_parts hb
  rw [covers_ref, coversR, name_filter ha', name_filter hb, name_spr a1, name_spr b1]
  have hp : ¬ (lvs a).headD [] = pl := by
    obtain ⟨x, r, hxr⟩ : ∃ x r, lvs a = x :: r := by
      cases h : lvs a with
      | nil => exact absurd h (lvs_ne a)
      | cons x r => exact ⟨x, r, rfl⟩
    rw [hxr]
    exact (plain_lv a1 x (by rw [hxr]; simp)).2
  rw [cov_plain _ _ (plain_lv a1) (fun x hx => (plain_lv b1 x hx).1), decide_eq_false hp]
  simp only [Bool.true_and, Bool.false_and, Bool.not_false]
  exact decide_eq_decide.2 ⟨fun h => lvs_inj h, fun h => by rw [h]⟩

theorem common_names {a b : Bs} (ha' : isName a = true) (hb : isName b = true) : (common a b).isSome = decide (a = b) := by
  obtain ⟨a1, a2, a3⟩ := name_parts ha'
  obtain ⟨b1, b2, b3⟩ := name_parts hb
  have hs : shared a b = if a = b then some (lvs a) else none := by
    rw [shared_shD (name_filter ha') (name_filter hb), shD, name_spr a1, name_spr b1]
    have hpa : ∀ {c : Bs}, wc c = false → ¬ (lvs c).headD [] = pl := by
      intro c hc
      obtain ⟨x, r, hxr⟩ : ∃ x r, lvs c = x :: r := by
        cases h : lvs c with
        | nil => exact absurd h (lvs_ne c)
        | cons x r => exact ⟨x, r, rfl⟩
      rw [hxr]
      exact (plain_lv hc x (by rw [hxr]; simp)).2
    rw [if_neg (fun h => h.2.2.elim (hpa a1) (hpa b1)), srch_plain _ _ (plain_lv a1) (plain_lv b1)]
    by_cases h : a = b
    · subst h; simp
    · rw [if_neg h, if_neg (fun e => h (lvs_inj e))]
  unfold common
  rw [hs]
  by_cases h : a = b
  · rw [if_pos h]
    have hn : sname (lvs a) = a := by
      unfold sname
      rw [nmL_plain _ (plain_lv a1), if_neg, glue_lvs]
      intro e
      have := glue_lvs a
      rw [e, glue_one] at this
      exact a2 this.symm
    dsimp only
    rw [hn, if_pos a3]
    simp [h]
  · rw [if_neg h]; simp [h]

set_option maxRecDepth 100000 in
set_option maxHeartbeats 2000000 in
theorem law_names (a b : ByteArray) (w : World) (ha' : a.size ≤ 9223372036854775807) (hb : b.size ≤ 9223372036854775807) (hT : Tabs w) :
    Calls Tryd.prog 8 #[.string a, .string b] w fun e w' => e = .returned (.bool true) ∧ Below w.heap.size w w' := by
  have c1 := rname_any a w ha' hT
  cases h1 : isName (tl a) with
  | false =>
    rw [h1] at c1
    go_enter Tryd.func8, Tryd.ntmps8
    go_wp2_with fail
    refine c1.mono ?_
    rintro e w1 ⟨rfl, hb1⟩
    go_wp2_with fail
    refine (awake_any w1 (hT.below hb1)).mono ?_
    rintro e w2 ⟨rfl, hb2⟩
    go_wp2
    go_ret
    exact ⟨rfl, hb1.trans (hb2.mono hb1.size)⟩
  | true =>
    rw [h1] at c1
    cases h2 : isName (tl b) with
    | false =>
      go_enter Tryd.func8, Tryd.ntmps8
      go_wp2_with fail
      refine c1.mono ?_
      rintro e w1 ⟨rfl, hb1⟩
      go_wp2_with fail
      refine (rname_any b w1 hb (hT.below hb1)).mono ?_
      rintro e w2 ⟨rfl, hb2⟩
      rw [h2]
      have B2 := hb1.trans (hb2.mono hb1.size)
      go_wp2_with fail
      refine (awake_any w2 (hT.below B2)).mono ?_
      rintro e w3 ⟨rfl, hb3⟩
      go_wp2
      go_ret
      exact ⟨rfl, B2.trans (hb3.mono B2.size)⟩
    | true =>
      have e1 := name_filter h1
      have e2 : matches' (tl a) (tl b) = (a.toList == b.toList) := by rw [matches', h2, Bool.true_and, covers_names h1 h2]; exact (Bool.beq_eq_decide_eq _ _).symm
      have e3 : covers (tl a) (tl b) = (a.toList == b.toList) := by rw [covers_names h1 h2]; exact (Bool.beq_eq_decide_eq _ _).symm
      have e4 : (common (tl a) (tl b)).isSome = (a.toList == b.toList) := by rw [common_names h1 h2]; exact (Bool.beq_eq_decide_eq _ _).symm
      obtain ⟨Q, hQ⟩ : ∃ Q, (a.toList == b.toList) = Q := ⟨_, rfl⟩
      rw [hQ] at e2 e3 e4
      go_enter Tryd.func8, Tryd.ntmps8
      go_wp2_with fail
      refine c1.mono ?_
      rintro e w1 ⟨rfl, hb1⟩
      go_wp2_with fail
      refine (rname_any b w1 hb (hT.below hb1)).mono ?_
      rintro e w2 ⟨rfl, hb2⟩
      rw [h2]
      have B2 := hb1.trans (hb2.mono hb1.size)
      go_wp2_with fail
      refine (filter_any a w2 ha' (hT.below B2)).mono ?_
      rintro e w3 ⟨rfl, hb3⟩
      rw [e1]
      have B3 := B2.trans (hb3.mono B2.size)
      go_wp2_with fail
      refine (match_any a b w3 ha' hb (hT.below B3)).mono ?_
      rintro e w4 ⟨rfl, hb4⟩
      rw [e2]
      have B4 := B3.trans (hb4.mono B3.size)
      go_wp2_with fail
      refine (covers_any a b w4 ha' hb (hT.below B4)).mono ?_
      rintro e w5 ⟨rfl, hb5⟩
      rw [e3]
      have B5 := B4.trans (hb5.mono B4.size)
      go_wp2_with fail
      refine (meets_any a b w5 ha' hb (hT.below B5)).mono ?_
      rintro e w6 ⟨rfl, hb6⟩
      rw [e4]
      have B6 := B5.trans (hb6.mono B5.size)
      go_wp2_with fail
      refine (awake_any w6 (hT.below B6)).mono ?_
      rintro e w7 ⟨rfl, hb7⟩
      go_wp2
      go_ret
      exact ⟨rfl, B6.trans (hb7.mono B6.size)⟩
end Go.Proofs.YtkkahijacbboiaaDoor
