/- The document's own answers, walked: Covers and Match of the reference at every two texts; what is asked of the world: the two tables of unicode/utf8 as their text lays them. -/
import Derived.Test.YtkgbpildikjoiaaGreatDoorRd
namespace Go.Proofs.YtkgbpildikjoiaaGreatDoor
open Go.RowKit Tp

theorem map_bs_cons {L : List Bs} (h : L ≠ []) : ∃ r, L = (L.headD []) :: r := by
  cases L with
  | nil => exact absurd rfl h
  | cons x r => exact ⟨r, rfl⟩

theorem dol_get (X : ByteArray) (h : 0 < X.size) : dol (tl X) = (X[0]'h == 36) := by
  have := tl_get X 0 h
  rw [dol, List.head?_eq_getElem?, this]
  rfl

set_option maxRecDepth 100000 in
set_option maxHeartbeats 4000000 in
theorem rmatch_any (f n : ByteArray) (w : World) (hf : f.size ≤ 9223372036854775807) (hn : n.size ≤ 9223372036854775807) (hT : Tabs w) :
    Calls Tryz.prog 17 #[.string f, .string n] w fun e w' => e = .returned (.bool (matchesR (tl f) (tl n))) ∧ Below w.heap.size w w' := by
  have c1 := rfilter_any f w hf hT
  unfold matchesR
  cases h1 : isFilter (tl f) with
  | false =>
    rw [h1] at c1
    simp only [Bool.false_and]
    go_enter Tryz.func17, Tryz.ntmps17
    go_wp2_with (go_at_call 28; refine c1.mono ?_; rintro e w1 ⟨rfl, hb1⟩)
    go_ret
    exact ⟨rfl, hb1⟩
  | true =>
    rw [h1] at c1
    cases h2 : isName (tl n) with
    | false =>
      simp only [Bool.false_and, Bool.and_false]
      go_enter Tryz.func17, Tryz.ntmps17
      go_wp2_with fail
      refine c1.mono ?_
      rintro e w1 ⟨rfl, hb1⟩
      go_wp2_with fail
      refine (rname_any n w1 hn (hT.below hb1)).mono ?_
      rintro e w2 ⟨rfl, hb2⟩
      rw [h2]
      go_wp2
      go_ret
      exact ⟨rfl, hb1.trans (hb2.mono hb1.size)⟩
    | true =>
      simp only [Bool.true_and]
      have zf := isFilter_size h1
      have zn := isFilter_size (name_filter h2)
      have cf := fun w => rlevels_any f w (by omega)
      have cg := fun w => rlevels_any n w (by omega)
      have hne : tl n ≠ [] := by simp only [isName, okText, Bool.and_eq_true, decide_eq_true_eq] at h2; exact h2.1.1.1.1
      have hsz : 0 < n.size := by rw [← tl_size]; exact List.length_pos_iff.2 hne
      have hdg := dol_get n hsz
      have hu := u36 (n[0]'hsz)
      rw [hdg]
      obtain ⟨r1, e1⟩ := map_bs_cons (lvs_ne (tl f))
      have hN := lvs_ne (tl n)
      generalize (lvs (tl f)).headD [] = x at e1 ⊢
      generalize lvs (tl f) = F at *
      generalize lvs (tl n) = G at *
      subst e1
      have n1 : (x :: r1).map bs ≠ [] := by simp
      have n2 : G.map bs ≠ [] := by simpa using hN
      have k1 : ((x :: r1).map bs)[0]? = some (bs x) := rfl
      have p1 : 0 < ((x :: r1).map bs).length := by simp
      have ee : agr (x :: r1) G = agr (((x :: r1).map bs).map tl) ((G.map bs).map tl) := by rw [map_tl_bs, map_tl_bs]
      rw [ee]
      have hW : decide (tl (bs x) = pl ∨ tl (bs x) = ha) = decide (x = pl ∨ x = ha) := by rw [tl_bs]
      clear ee
      generalize (x :: r1).map bs = F at *
      generalize G.map bs = G at *
      generalize bs x = X at *
      cases hw : decide (x = pl ∨ x = ha) with
      | false =>
        rw [hw] at hW
        simp only [Bool.false_and, Bool.not_false, Bool.true_and]
        clear hu hdg
        go_enter Tryz.func17, Tryz.ntmps17
        go_wp2_with fail
        refine c1.mono ?_
        rintro e w1 ⟨rfl, hb1⟩
        go_wp2_with fail
        refine (rname_any n w1 hn (hT.below hb1)).mono ?_
        rintro e w2 ⟨rfl, hb2⟩
        rw [h2]
        have B2 := hb1.trans (hb2.mono hb1.size)
        go_wp2_with fail
        refine (cf w2).mono ?_
        rintro e w3 ⟨v1, rfl, ho1, hb3⟩
        obtain ⟨g1, m1, rfl, a1, a2, a3, R1⟩ := owns_row ho1 n1
        have B3 := B2.trans (hb3.mono B2.size)
        have cx := R1 0 _ k1
        clear cf c1 ho1 hb1 hb2 hb3 B2
        go_wp2_with fail
        refine (wild_any X w3).mono ?_
        rintro e w3' ⟨rfl, rfl⟩
        rw [hW]
        go_wp2_with fail
        refine (cg w3').mono ?_
        rintro e w4 ⟨v2, rfl, ho2, hb4⟩
        obtain ⟨g2, m2, rfl, a4, a5, a6, rr2⟩ := owns_row ho2 n2
        have B4 := B3.trans (hb4.mono B3.size)
        go_wp2_with fail
        refine (agree_any F G g1 0 m1 g2 0 m2 w4 (R1.below hb4 a2) rr2 a3 a6).mono ?_
        rintro e w5 ⟨rfl, q, rfl⟩
        go_wp2
        go_ret
        exact ⟨rfl, below_drewN B4 q⟩
      | true =>
        rw [hw] at hW
        cases hb0 : (n[0]'hsz == 36) with
        | true =>
          rw [hb0] at hu
          simp only [Bool.true_and, Bool.not_true, Bool.false_and]
          clear hdg hb0
          go_enter Tryz.func17, Tryz.ntmps17
          go_wp2_with fail
          refine c1.mono ?_
          rintro e w1 ⟨rfl, hb1⟩
          go_wp2_with fail
          refine (rname_any n w1 hn (hT.below hb1)).mono ?_
          rintro e w2 ⟨rfl, hb2⟩
          rw [h2]
          have B2 := hb1.trans (hb2.mono hb1.size)
          go_wp2_with fail
          refine (cf w2).mono ?_
          rintro e w3 ⟨v1, rfl, ho1, hb3⟩
          obtain ⟨g1, m1, rfl, a1, a2, a3, R1⟩ := owns_row ho1 n1
          have B3 := B2.trans (hb3.mono B2.size)
          have cx := R1 0 _ k1
          clear cf c1 ho1 hb1 hb2 hb3 B2
          go_wp2_with fail
          refine (wild_any X w3).mono ?_
          rintro e w3' ⟨rfl, rfl⟩
          rw [hW]
          go_wp2
          go_ret
          exact ⟨rfl, B3⟩
        | false =>
          rw [hb0] at hu
          simp only [Bool.and_false, Bool.not_false, Bool.true_and]
          clear hdg hb0
          go_enter Tryz.func17, Tryz.ntmps17
          go_wp2_with fail
          refine c1.mono ?_
          rintro e w1 ⟨rfl, hb1⟩
          go_wp2_with fail
          refine (rname_any n w1 hn (hT.below hb1)).mono ?_
          rintro e w2 ⟨rfl, hb2⟩
          rw [h2]
          have B2 := hb1.trans (hb2.mono hb1.size)
          go_wp2_with fail
          refine (cf w2).mono ?_
          rintro e w3 ⟨v1, rfl, ho1, hb3⟩
          obtain ⟨g1, m1, rfl, a1, a2, a3, R1⟩ := owns_row ho1 n1
          have B3 := B2.trans (hb3.mono B2.size)
          have cx := R1 0 _ k1
          clear cf c1 ho1 hb1 hb2 hb3 B2
          go_wp2_with fail
          refine (wild_any X w3).mono ?_
          rintro e w3' ⟨rfl, rfl⟩
          rw [hW]
          go_wp2_with fail
          refine (cg w3').mono ?_
          rintro e w4 ⟨v2, rfl, ho2, hb4⟩
          obtain ⟨g2, m2, rfl, a4, a5, a6, rr2⟩ := owns_row ho2 n2
          have B4 := B3.trans (hb4.mono B3.size)
          go_wp2_with fail
          refine (agree_any F G g1 0 m1 g2 0 m2 w4 (R1.below hb4 a2) rr2 a3 a6).mono ?_
          rintro e w5 ⟨rfl, q, rfl⟩
          go_wp2
          go_ret
          exact ⟨rfl, below_drewN B4 q⟩
end Go.Proofs.YtkgbpildikjoiaaGreatDoor
