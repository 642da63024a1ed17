/- The document's own answers, walked: spread, Match, Covers of the reference, held against what the program answers; what is asked of the world: the two tables of unicode/utf8 as their text lays them. -/
import Derived.Test.YtkkahijacbboiaaDoorRb
import Derived.Test.YtkkahijacbboiaaDoorRc
import Derived.Test.YtkkahijacbboiaaDoorTg
namespace Go.Proofs.YtkkahijacbboiaaDoor
open Go.RowKit Tp

theorem dol_lvs (n : Bs) : dol ((lvs n).headD []) = dol n := by
  cases n with
  | nil => rfl
  | cons b r =>
    by_cases hb : b = 47
    · subst hb; simp [lvs, dol]
    · simp [lvs, hb, dol]

theorem wc_lvs {n : Bs} (h : wc n = false) : ∀ x ∈ lvs n, wc x = false := by
  intro x hx
  rw [Tp.wc, List.any_eq_false] at h ⊢
  exact fun b hb => h b (mem_lvs hx hb)

theorem name_spr {n : Bs} (h : wc n = false) : spr n = lvs n := by
  unfold spr
  rw [if_neg (fun e => by rw [e] at h; exact absurd h (by decide)), if_neg (fun e => by rw [e] at h; exact absurd h (by decide))]

theorem name_filter {n : Bs} (h : isName n = true) : isFilter n = true := by
  simp only [isName, isFilter, Bool.and_eq_true, Bool.not_eq_true'] at h ⊢
  exact ⟨h.1, fl_name _ (wc_lvs h.2)⟩

theorem agr_cov : ∀ (f g : List Bs), (∀ y ∈ g, y ≠ ha) → agr f g = cov f g
  | [], [], _ => rfl
  | [], y :: g, _ => rfl
  | x :: f, [], _ => by by_cases h : x = ha <;> simp [agr, cov, h]
  | x :: f, y :: g, h => by
    have hy := h y (by simp)
    have ih := agr_cov f g (fun z hz => h z (List.mem_cons_of_mem _ hz))
    by_cases hx : x = ha
    · simp [agr, cov, hx]
    · simp only [agr, cov, hx, hy, if_false, ih]

def matchesR (f n : Bs) : Bool :=
  isFilter f && isName n && !(decide ((lvs f).headD [] = pl ∨ (lvs f).headD [] = ha) && dol n) && agr (lvs f) (lvs n)

theorem match_ref (f n : Bs) : matches' f n = matchesR f n := by
  unfold matches' matchesR
  rw [covers_ref]
  unfold coversR
  cases hn : isName n with
  | false => simp
  | true =>
    rw [name_filter hn]
    cases hf : isFilter f with
    | false => simp
    | true =>
      simp only [Bool.true_and, Bool.and_true]
      have hw : wc n = false := by simp only [isName, Bool.and_eq_true, Bool.not_eq_true'] at hn; exact hn.2
      have hne : n ≠ [] := by simp only [isName, okText, Bool.and_eq_true, decide_eq_true_eq] at hn; exact hn.1.1.1.1
      rw [name_spr hw, dol_lvs]
      have hna : ∀ y ∈ lvs n, y ≠ ha := fun y hy e => by have := wc_lvs hw y hy; rw [e] at this; exact absurd this (by decide)
      obtain ⟨y, r, hyr⟩ : ∃ y r, lvs n = y :: r := by
        cases h : lvs n with
        | nil => exact absurd h (lvs_ne n)
        | cons y r => exact ⟨y, r, rfl⟩
      have hy : y ≠ ha := hna y (by rw [hyr]; simp)
      rw [agr_cov _ _ hna]
      unfold spr
      by_cases h1 : f = ha
      · subst h1
        rw [if_pos rfl, hyr, show lvs ha = [ha] from rfl]
        have e : cov [pl, ha] (y :: r) = true := by
          have : cov [ha] r = true := by cases r <;> simp [cov]
          simp [cov, hy, this]
        rw [e]
        simp [cov]
      · rw [if_neg h1]
        by_cases h2 : f = [47, 35]
        · subst h2
          rw [if_pos rfl, hyr, show lvs [47, 35] = [[], ha] from rfl]
          have e : cov [[], pl, ha] (y :: r) = cov [[], ha] (y :: r) := by
            by_cases hy0 : y = []
            · subst hy0
              cases r with
              | nil =>
                exfalso
                have := glue_lvs n
                rw [hyr, glue_one] at this
                exact hne this.symm
              | cons z t =>
                have hz : z ≠ ha := hna z (by rw [hyr]; simp)
                have : cov [ha] t = true := by cases t <;> simp [cov]
                simp [cov, hz, this]
            · have : ¬ ([] = y) := fun e => hy0 e.symm
              simp [cov, hy, this]
          rw [e]
          rfl
        · rw [if_neg h2]
          have h3 : (lvs f).headD [] ≠ ha := by
            have := (spr_gd hf).2.1
            rwa [spr, if_neg h1, if_neg h2] at this
          have e3 : ((lvs f).headD [] = pl ∨ (lvs f).headD [] = ha) ↔ (lvs f).headD [] = pl := ⟨fun h => h.resolve_right h3, .inl⟩
          rw [decide_eq_decide.2 e3]

theorem owns_two (w : World) (a b : ByteArray) (base : Nat) (h : base ≤ w.heap.size) : (w.alloc (.cells #[.string a, .string b] 9)).ownsRow base 9 1 (.slice (some ⟨w.heap.size, 0, none⟩) 2 2) 2 [.string a, .string b] :=
  ⟨rfl, .inr ⟨w.heap.size, 2, #[.string a, .string b], rfl, h, heap_alloc_new w _, Nat.le_refl _, by decide, rfl, rfl⟩⟩
theorem owns_three (w : World) (a b c : ByteArray) (base : Nat) (h : base ≤ w.heap.size) : (w.alloc (.cells #[.string a, .string b, .string c] 9)).ownsRow base 9 1 (.slice (some ⟨w.heap.size, 0, none⟩) 3 3) 3 [.string a, .string b, .string c] :=
  ⟨rfl, .inr ⟨w.heap.size, 3, #[.string a, .string b, .string c], rfl, h, heap_alloc_new w _, Nat.le_refl _, by decide, rfl, rfl⟩⟩

set_option maxHeartbeats 2000000 in
theorem spread_any (s : ByteArray) (w : World) (hf : isFilter (tl s) = true) :
    Calls Tryd.prog 35 #[.string s] w fun e W' => ∃ v, e = .returned v ∧ W'.ownsRow w.heap.size 9 1 v ((spr (tl s)).map bs).length (((spr (tl s)).map bs).map Value.string) ∧ Below w.heap.size w W' := by
  have zs := isFilter_size hf
  have c1 := rlevels_any s w (by omega)
  have hgd := spr_gd hf
  by_cases h1 : tl s = ha
  · rw [h1] at c1 ⊢
    rw [show (lvs ha).map bs = [bs ha] from rfl] at c1
    rw [show (spr ha).map bs = [bs pl, bs ha] from rfl]
    go_enter Tryd.func35, Tryd.ntmps35
    go_wp2_with fail
    refine c1.mono ?_
    rintro e w1 ⟨v, rfl, ho, hb⟩
    obtain ⟨g1, k1, rfl, q1, q2, q3, r1⟩ := owns_row ho (by simp)
    have cx := r1 0 _ rfl
    have hx : (bs ha).toList = [35] := tl_bs _
    generalize bs ha = X at *
    go_wp2
    go_ret
    exact ⟨_, rfl, owns_two w1 _ _ _ hb.size, hb.alloc hb.size _⟩
  · by_cases h2 : tl s = [47, 35]
    · rw [h2] at c1 ⊢
      rw [show (lvs [47, 35]).map bs = [bs [], bs ha] from rfl] at c1
      rw [show (spr [47, 35]).map bs = [bs [], bs pl, bs ha] from rfl]
      go_enter Tryd.func35, Tryd.ntmps35
      go_wp2_with fail
      refine c1.mono ?_
      rintro e w1 ⟨v, rfl, ho, hb⟩
      obtain ⟨g1, k1, rfl, q1, q2, q3, r1⟩ := owns_row ho (by simp)
      have cx := r1 0 _ rfl
      have cy := r1 1 _ rfl
      have hx : (bs []).toList = [] := tl_bs _
      have hy : (bs ha).toList = [35] := tl_bs _
      clear c1 h2
      obtain ⟨X, hX⟩ : ∃ X, bs [] = X := ⟨_, rfl⟩
      obtain ⟨Y, hY⟩ : ∃ Y, bs ha = Y := ⟨_, rfl⟩
      rw [hX] at cx hx
      rw [hY] at cy hy
      go_wp2
      go_ret
      exact ⟨_, rfl, owns_three w1 _ _ _ _ hb.size, hb.alloc hb.size _⟩
    · have e : spr (tl s) = lvs (tl s) := by rw [spr, if_neg h1, if_neg h2]
      rw [e]
      have h0 := hgd.2.1
      rw [e] at h0
      have h3 : ∀ x, lvs (tl s) = [[], x] → x ≠ ha := by
        intro x hx e'
        subst e'
        have := glue_lvs (tl s)
        rw [hx] at this
        exact h2 this.symm
      have hlen : (lvs (tl s)).length ≤ 65537 := by have := hgd.2.2; rwa [e] at this
      have hne := lvs_ne (tl s)
      clear hgd e h1 h2
      generalize lvs (tl s) = L at *
      obtain ⟨x, r, rfl⟩ : ∃ x r, L = x :: r := by
        cases L with
        | nil => exact absurd rfl hne
        | cons x r => exact ⟨x, r, rfl⟩
      have hx' : (tl (bs x) == [35]) = false := by rw [tl_bs]; simpa using h0
      by_cases hl : r.length = 1
      · obtain ⟨y, rfl⟩ : ∃ y, r = [y] := List.length_eq_one_iff.1 hl
        by_cases hx0 : x = []
        · have hx0' : (tl (bs x)).isEmpty = true := by rw [tl_bs, hx0]; rfl
          have hy' : (tl (bs y) == [35]) = false := by rw [tl_bs]; simpa using h3 y (by rw [hx0])
          rw [show ([x, y].map bs) = [bs x, bs y] from rfl] at *
          clear h0 h3 hx0
          generalize bs x = X at *
          generalize bs y = Y at *
          go_enter Tryd.func35, Tryd.ntmps35
          go_wp2_with fail
          refine c1.mono ?_
          rintro e w1 ⟨v, rfl, ho, hb⟩
          have hO := ho
          obtain ⟨g1, k1, rfl, q1, q2, q3, r1⟩ := owns_row ho (by simp)
          have cx := r1 0 _ rfl
          have cy := r1 1 _ rfl
          go_wp2
          go_ret
          exact ⟨_, rfl, hO, hb⟩
        · have hx0' : (tl (bs x)).isEmpty = false := by rw [tl_bs]; simpa using hx0
          rw [show ([x, y].map bs) = [bs x, bs y] from rfl] at *
          clear h0 h3 hx0
          generalize bs x = X at *
          generalize bs y = Y at *
          go_enter Tryd.func35, Tryd.ntmps35
          go_wp2_with fail
          refine c1.mono ?_
          rintro e w1 ⟨v, rfl, ho, hb⟩
          have hO := ho
          obtain ⟨g1, k1, rfl, q1, q2, q3, r1⟩ := owns_row ho (by simp)
          have cx := r1 0 _ rfl
          have cy := r1 1 _ rfl
          go_wp2
          go_ret
          exact ⟨_, rfl, hO, hb⟩
      · have hl' : ((((x :: r).map bs).length : Int) == 2) = false := by simp; omega
        have hp : 0 < ((x :: r).map bs).length := by simp
        have hnn : (x :: r).map bs ≠ [] := by simp
        have hc0 : ((x :: r).map bs)[0]? = some (bs x) := rfl
        have hlen' : ((x :: r).map bs).length ≤ 65537 := by rw [List.length_map]; exact hlen
        clear h0 h3 hl hlen hne
        generalize (x :: r).map bs = M at *
        generalize bs x = X at *
        go_enter Tryd.func35, Tryd.ntmps35
        go_wp2_with fail
        refine c1.mono ?_
        rintro e w1 ⟨v, rfl, ho, hb⟩
        have hO := ho
        obtain ⟨g1, k1, rfl, q1, q2, q3, r1⟩ := owns_row ho hnn
        have cx := r1 0 _ hc0
        go_wp2
        go_ret
        exact ⟨_, rfl, hO, hb⟩
end Go.Proofs.YtkkahijacbboiaaDoor
