/- The document's own answers, walked: spread of the reference; no condition but those that each theorem names. -/
import Derived.Test.YtnlplnlclnbdiaaDoorRd
import Derived.Test.YtnlplnlclnbdiaaDoorRb
namespace Go.Proofs.YtnlplnlclnbdiaaDoor
open Go.RowKit Tp

theorem owns_two (w : World) (a b : ByteArray) (base : Nat) (h : base ≤ w.heap.size) : (w.alloc (.cells #[.string a, .string b] 9)).ownsRow base 9 1 (.slice (some ⟨w.heap.size, 0, none⟩) 2 2) 2 [.string a, .string b] :=
  ⟨rfl, .inr ⟨w.heap.size, 2, #[.string a, .string b], rfl, h, heap_alloc_new w _, Nat.le_refl _, by decide, rfl, rfl⟩⟩
theorem owns_three (w : World) (a b c : ByteArray) (base : Nat) (h : base ≤ w.heap.size) : (w.alloc (.cells #[.string a, .string b, .string c] 9)).ownsRow base 9 1 (.slice (some ⟨w.heap.size, 0, none⟩) 3 3) 3 [.string a, .string b, .string c] :=
  ⟨rfl, .inr ⟨w.heap.size, 3, #[.string a, .string b, .string c], rfl, h, heap_alloc_new w _, Nat.le_refl _, by decide, rfl, rfl⟩⟩

set_option maxHeartbeats 2000000 in
theorem spread_any (s : ByteArray) (w : World) (hf : isFilter (tl s) = true) :
    Calls Tryd.prog 24 #[.string s] w fun e W' => ∃ v, e = .returned v ∧ W'.ownsRow w.heap.size 9 1 v ((spr (tl s)).map bs).length (((spr (tl s)).map bs).map Value.string) ∧ Below w.heap.size w W' := by
  have zs := isFilter_size hf
  have c1 := rlevels_any s w (by omega)
  have hgd := spr_gd hf
  by_cases h1 : tl s = ha
  · rw [h1] at c1 ⊢
    rw [show (lvs ha).map bs = [bs ha] from rfl] at c1
    rw [show (spr ha).map bs = [bs pl, bs ha] from rfl]
    go_enter Tryd.func24, Tryd.ntmps24
    go_wp2_with fail
    refine c1.mono ?_
    rintro e w1 ⟨v, rfl, ho, hb⟩
    obtain ⟨g1, k1, rfl, q1, q2, q3, r1⟩ := owns_row ho (by simp)
    have cx := r1 0 _ rfl
    have hx : (bs ha).toList = [35] := tl_bs _
    generalize bs ha = X at *
    go_wp2
    go_ret
    exact ⟨_, rfl, owns_two w1 _ _ _ hb.size, hb.alloc hb.size _⟩
  · by_cases h2 : tl s = [47, 35]
    · rw [h2] at c1 ⊢
      rw [show (lvs [47, 35]).map bs = [bs [], bs ha] from rfl] at c1
      rw [show (spr [47, 35]).map bs = [bs [], bs pl, bs ha] from rfl]
      go_enter Tryd.func24, Tryd.ntmps24
      go_wp2_with fail
      refine c1.mono ?_
      rintro e w1 ⟨v, rfl, ho, hb⟩
      obtain ⟨g1, k1, rfl, q1, q2, q3, r1⟩ := owns_row ho (by simp)
      have cx := r1 0 _ rfl
      have cy := r1 1 _ rfl
      have hx : (bs []).toList = [] := tl_bs _
      have hy : (bs ha).toList = [35] := tl_bs _
      clear c1 h2
      obtain ⟨X, hX⟩ : ∃ X, bs [] = X := ⟨_, rfl⟩
      obtain ⟨Y, hY⟩ : ∃ Y, bs ha = Y := ⟨_, rfl⟩
      rw [hX] at cx hx
      rw [hY] at cy hy
      go_wp2
      go_ret
      exact ⟨_, rfl, owns_three w1 _ _ _ _ hb.size, hb.alloc hb.size _⟩
    · have e : spr (tl s) = lvs (tl s) := by rw [spr, if_neg h1, if_neg h2]
      rw [e]
      have h0 := hgd.2.1
      rw [e] at h0
      have h3 : ∀ x, lvs (tl s) = [[], x] → x ≠ ha := by
        intro x hx e'
        subst e'
        have := glue_lvs (tl s)
        rw [hx] at this
        exact h2 this.symm
      have hlen : (lvs (tl s)).length ≤ 65537 := by have := hgd.2.2; rwa [e] at this
      have hne := lvs_ne (tl s)
      clear hgd e h1 h2
      generalize lvs (tl s) = L at *
      obtain ⟨x, r, rfl⟩ : ∃ x r, L = x :: r := by
        cases L with
        | nil => exact absurd rfl hne
        | cons x r => exact ⟨x, r, rfl⟩
      have hx' : (tl (bs x) == [35]) = false := by rw [tl_bs]; simpa using h0
      by_cases hl : r.length = 1
      · obtain ⟨y, rfl⟩ : ∃ y, r = [y] := List.length_eq_one_iff.1 hl
        by_cases hx0 : x = []
        · have hx0' : (tl (bs x)).isEmpty = true := by rw [tl_bs, hx0]; rfl
          have hy' : (tl (bs y) == [35]) = false := by rw [tl_bs]; simpa using h3 y (by rw [hx0])
          rw [show ([x, y].map bs) = [bs x, bs y] from rfl] at *
          clear h0 h3 hx0
          generalize bs x = X at *
          generalize bs y = Y at *
          go_enter Tryd.func24, Tryd.ntmps24
          go_wp2_with fail
          refine c1.mono ?_
          rintro e w1 ⟨v, rfl, ho, hb⟩
          have hO := ho
          obtain ⟨g1, k1, rfl, q1, q2, q3, r1⟩ := owns_row ho (by simp)
          have cx := r1 0 _ rfl
          have cy := r1 1 _ rfl
          go_wp2
          go_ret
          exact ⟨_, rfl, hO, hb⟩
        · have hx0' : (tl (bs x)).isEmpty = false := by rw [tl_bs]; simpa using hx0
          rw [show ([x, y].map bs) = [bs x, bs y] from rfl] at *
          clear h0 h3 hx0
          generalize bs x = X at *
          generalize bs y = Y at *
          go_enter Tryd.func24, Tryd.ntmps24
          go_wp2_with fail
          refine c1.mono ?_
          rintro e w1 ⟨v, rfl, ho, hb⟩
          have hO := ho
          obtain ⟨g1, k1, rfl, q1, q2, q3, r1⟩ := owns_row ho (by simp)
          have cx := r1 0 _ rfl
          have cy := r1 1 _ rfl
          go_wp2
          go_ret
          exact ⟨_, rfl, hO, hb⟩
      · have hl' : ((((x :: r).map bs).length : Int) == 2) = false := by simp; omega
        have hp : 0 < ((x :: r).map bs).length := by simp
        have hnn : (x :: r).map bs ≠ [] := by simp
        have hc0 : ((x :: r).map bs)[0]? = some (bs x) := rfl
        have hlen' : ((x :: r).map bs).length ≤ 65537 := by rw [List.length_map]; exact hlen
        clear h0 h3 hl hlen hne
        generalize (x :: r).map bs = M at *
        generalize bs x = X at *
        go_enter Tryd.func24, Tryd.ntmps24
        go_wp2_with fail
        refine c1.mono ?_
        rintro e w1 ⟨v, rfl, ho, hb⟩
        have hO := ho
        obtain ⟨g1, k1, rfl, q1, q2, q3, r1⟩ := owns_row ho hnn
        have cx := r1 0 _ hc0
        go_wp2
        go_ret
        exact ⟨_, rfl, hO, hb⟩
end Go.Proofs.YtnlplnlclnbdiaaDoor
