/- The document's own answers, walked: Covers of the reference at every two texts; what is asked of the world: the two tables of unicode/utf8 as their text lays them. -/
import Derived.Test.YtnlplnlclnbdiaaDoorRcv
import Derived.Test.YtnlplnlclnbdiaaDoorRsp
import Derived.Test.YtnlplnlclnbdiaaDoorRb
namespace Go.Proofs.YtnlplnlclnbdiaaDoor
open Go.RowKit Tp

theorem map_bs_cons {L : List Bs} (h : L ≠ []) : ∃ r, L = (L.headD []) :: r := by
  cases L with
  | nil => exact absurd rfl h
  | cons x r => exact ⟨r, rfl⟩

theorem dol_get (X : ByteArray) (h : 0 < X.size) : dol (tl X) = (X[0]'h == 36) := by
  have := tl_get X 0 h
  rw [dol, List.head?_eq_getElem?, this]
  rfl

set_option maxRecDepth 100000 in
set_option maxHeartbeats 4000000 in
theorem rcovers_any (f g : ByteArray) (w : World) (hf : f.size ≤ 9223372036854775807) (hg : g.size ≤ 9223372036854775807) (hT : Tabs w) :
    Calls Tryd.prog 7 #[.string f, .string g] w fun e w' => e = .returned (.bool (coversR (tl f) (tl g))) ∧ Below w.heap.size w w' := by
  have c1 := rfilter_any f w hf hT
  unfold coversR
  cases h1 : isFilter (tl f) with
  | false =>
    rw [h1] at c1
    simp only [Bool.false_and]
    go_enter Tryd.func7, Tryd.ntmps7
    go_wp2_with (go_at_call 23; refine c1.mono ?_; rintro e w1 ⟨rfl, hb1⟩)
    go_ret
    exact ⟨rfl, hb1⟩
  | true =>
    rw [h1] at c1
    cases h2 : isFilter (tl g) with
    | false =>
      simp only [Bool.false_and, Bool.and_false]
      go_enter Tryd.func7, Tryd.ntmps7
      go_wp2_with fail
      refine c1.mono ?_
      rintro e w1 ⟨rfl, hb1⟩
      go_wp2_with fail
      refine (rfilter_any g w1 hg (hT.below hb1)).mono ?_
      rintro e w2 ⟨rfl, hb2⟩
      rw [h2]
      go_wp2
      go_ret
      exact ⟨rfl, hb1.trans (hb2.mono hb1.size)⟩
    | true =>
      simp only [Bool.true_and]
      have cf := fun w => spread_any f w h1
      have cg := fun w => spread_any g w h2
      obtain ⟨r1, e1⟩ := map_bs_cons (spr_gd h1).1.ne
      obtain ⟨r2, e2⟩ := map_bs_cons (spr_gd h2).1.ne
      have l1 := (spr_gd h1).2.2
      have l2 := (spr_gd h2).2.2
      generalize (spr (tl f)).headD [] = x at e1 ⊢
      generalize (spr (tl g)).headD [] = y at e2 ⊢
      generalize spr (tl f) = F at *
      generalize spr (tl g) = G at *
      subst e1 e2
      have n1 : (x :: r1).map bs ≠ [] := by simp
      have n2 : (y :: r2).map bs ≠ [] := by simp
      have k1 : ((x :: r1).map bs)[0]? = some (bs x) := rfl
      have k2 : ((y :: r2).map bs)[0]? = some (bs y) := rfl
      have p1 : 0 < ((x :: r1).map bs).length := by simp
      have p2 : 0 < ((y :: r2).map bs).length := by simp
      have hX : (tl (bs x) == [43]) = decide (x = pl) := by rw [tl_bs]; exact Bool.beq_eq_decide_eq _ _
      have hY : (tl (bs y) == [43]) = decide (y = pl) := by rw [tl_bs]; exact Bool.beq_eq_decide_eq _ _
      have hY0 : (tl (bs y)).isEmpty = decide (y = []) := by rw [tl_bs]; cases y <;> rfl
      have hYd : dol y = dol (tl (bs y)) := by rw [tl_bs]
      have ee : cov (x :: r1) (y :: r2) = cov (((x :: r1).map bs).map tl) (((y :: r2).map bs).map tl) := by rw [map_tl_bs, map_tl_bs]
      rw [ee]
      have q1 : ((x :: r1).map bs).length ≤ 65537 := by rw [List.length_map]; exact l1
      have q2 : ((y :: r2).map bs).length ≤ 65537 := by rw [List.length_map]; exact l2
      clear l1 l2
      generalize (x :: r1).map bs = F at *
      generalize (y :: r2).map bs = G at *
      generalize bs x = X at *
      generalize bs y = Y at *
      by_cases hx : x = pl
      · have hX' : (X.toList == [43]) = true := by rw [show (X.toList == [43]) = _ from hX]; simpa using hx
        by_cases hy : y = pl
        · have hY' : (Y.toList == [43]) = true := by rw [show (Y.toList == [43]) = _ from hY]; simpa using hy
          have hd : (!(decide (x = pl) && dol y)) = true := by rw [hy, show dol pl = false from rfl, Bool.and_false]; rfl
          rw [hd, Bool.true_and]
          clear hX hY hY0 hYd hd
          go_enter Tryd.func7, Tryd.ntmps7
          go_wp2_with fail
          refine c1.mono ?_
          rintro e w1 ⟨rfl, hb1⟩
          go_wp2_with fail
          refine (rfilter_any g w1 hg (hT.below hb1)).mono ?_
          rintro e w2 ⟨rfl, hb2⟩
          rw [h2]
          have B2 := hb1.trans (hb2.mono hb1.size)
          go_wp2_with fail
          refine (cf w2).mono ?_
          rintro e w3 ⟨v1, rfl, ho1, hb3⟩
          obtain ⟨g1, m1, rfl, a1, a2, a3, rr1⟩ := owns_row ho1 n1
          have B3 := B2.trans (hb3.mono B2.size)
          go_wp2_with fail
          refine (cg w3).mono ?_
          rintro e w4 ⟨v2, rfl, ho2, hb4⟩
          obtain ⟨g2, m2, rfl, a4, a5, a6, rr2⟩ := owns_row ho2 n2
          have B4 := B3.trans (hb4.mono B3.size)
          have R1 := rr1.below hb4 a2
          have cx := R1 0 _ k1
          have cy := rr2 0 _ k2
          clear cf cg c1 ho1 ho2 hb1 hb2 hb3 hb4 B2 B3
          go_wp2_with (go_at_call 25; refine (coversR_any F G g1 0 m1 g2 0 m2 w4 R1 rr2 a3 a6).mono ?_; rintro e w5 ⟨rfl, q, rfl⟩)
          go_ret
          exact ⟨rfl, below_drewN B4 q⟩
        · have hY' : (Y.toList == [43]) = false := by rw [show (Y.toList == [43]) = _ from hY]; simpa using hy
          by_cases hy0 : y = []
          · have hY0' : Y.toList.isEmpty = true := by rw [show Y.toList.isEmpty = _ from hY0]; simpa using hy0
            have hd : (!(decide (x = pl) && dol y)) = true := by rw [hy0, show dol [] = false from rfl, Bool.and_false]; rfl
            rw [hd, Bool.true_and]
            clear hX hY hY0 hYd hd
            go_enter Tryd.func7, Tryd.ntmps7
            go_wp2_with fail
            refine c1.mono ?_
            rintro e w1 ⟨rfl, hb1⟩
            go_wp2_with fail
            refine (rfilter_any g w1 hg (hT.below hb1)).mono ?_
            rintro e w2 ⟨rfl, hb2⟩
            rw [h2]
            have B2 := hb1.trans (hb2.mono hb1.size)
            go_wp2_with fail
            refine (cf w2).mono ?_
            rintro e w3 ⟨v1, rfl, ho1, hb3⟩
            obtain ⟨g1, m1, rfl, a1, a2, a3, rr1⟩ := owns_row ho1 n1
            have B3 := B2.trans (hb3.mono B2.size)
            go_wp2_with fail
            refine (cg w3).mono ?_
            rintro e w4 ⟨v2, rfl, ho2, hb4⟩
            obtain ⟨g2, m2, rfl, a4, a5, a6, rr2⟩ := owns_row ho2 n2
            have B4 := B3.trans (hb4.mono B3.size)
            have R1 := rr1.below hb4 a2
            have cx := R1 0 _ k1
            have cy := rr2 0 _ k2
            clear cf cg c1 ho1 ho2 hb1 hb2 hb3 hb4 B2 B3
            go_wp2_with (go_at_call 25; refine (coversR_any F G g1 0 m1 g2 0 m2 w4 R1 rr2 a3 a6).mono ?_; rintro e w5 ⟨rfl, q, rfl⟩)
            go_ret
            exact ⟨rfl, below_drewN B4 q⟩
          · have hY0' : Y.toList.isEmpty = false := by rw [show Y.toList.isEmpty = _ from hY0]; simpa using hy0
            have hsz : 0 < Y.size := by
              rw [← tl_size]
              exact List.length_pos_iff.2 (by simpa using hY0')
            have hdg := dol_get Y hsz
            have hu := u36 (Y[0]'hsz)
            rw [hYd, hx, hdg]
            cases hb0 : (Y[0]'hsz == 36) with
            | true =>
              rw [hb0] at hu
              simp only [decide_true, Bool.true_and, Bool.not_true, Bool.false_and]
              clear hX hY hY0 hYd hdg hb0 ee
              go_enter Tryd.func7, Tryd.ntmps7
              go_wp2_with fail
              refine c1.mono ?_
              rintro e w1 ⟨rfl, hb1⟩
              go_wp2_with fail
              refine (rfilter_any g w1 hg (hT.below hb1)).mono ?_
              rintro e w2 ⟨rfl, hb2⟩
              rw [h2]
              have B2 := hb1.trans (hb2.mono hb1.size)
              go_wp2_with fail
              refine (cf w2).mono ?_
              rintro e w3 ⟨v1, rfl, ho1, hb3⟩
              obtain ⟨g1, m1, rfl, a1, a2, a3, rr1⟩ := owns_row ho1 n1
              have B3 := B2.trans (hb3.mono B2.size)
              go_wp2_with fail
              refine (cg w3).mono ?_
              rintro e w4 ⟨v2, rfl, ho2, hb4⟩
              obtain ⟨g2, m2, rfl, a4, a5, a6, rr2⟩ := owns_row ho2 n2
              have B4 := B3.trans (hb4.mono B3.size)
              have R1 := rr1.below hb4 a2
              have cx := R1 0 _ k1
              have cy := rr2 0 _ k2
              clear cf cg c1 ho1 ho2 hb1 hb2 hb3 hb4 B2 B3
              go_wp2
              go_ret
              exact ⟨rfl, B4⟩
            | false =>
              rw [hb0] at hu
              simp only [decide_true, Bool.true_and, Bool.not_false]
              clear hX hY hY0 hYd hdg hb0 ee
              go_enter Tryd.func7, Tryd.ntmps7
              go_wp2_with fail
              refine c1.mono ?_
              rintro e w1 ⟨rfl, hb1⟩
              go_wp2_with fail
              refine (rfilter_any g w1 hg (hT.below hb1)).mono ?_
              rintro e w2 ⟨rfl, hb2⟩
              rw [h2]
              have B2 := hb1.trans (hb2.mono hb1.size)
              go_wp2_with fail
              refine (cf w2).mono ?_
              rintro e w3 ⟨v1, rfl, ho1, hb3⟩
              obtain ⟨g1, m1, rfl, a1, a2, a3, rr1⟩ := owns_row ho1 n1
              have B3 := B2.trans (hb3.mono B2.size)
              go_wp2_with fail
              refine (cg w3).mono ?_
              rintro e w4 ⟨v2, rfl, ho2, hb4⟩
              obtain ⟨g2, m2, rfl, a4, a5, a6, rr2⟩ := owns_row ho2 n2
              have B4 := B3.trans (hb4.mono B3.size)
              have R1 := rr1.below hb4 a2
              have cx := R1 0 _ k1
              have cy := rr2 0 _ k2
              clear cf cg c1 ho1 ho2 hb1 hb2 hb3 hb4 B2 B3
              go_wp2_with (go_at_call 25; refine (coversR_any F G g1 0 m1 g2 0 m2 w4 R1 rr2 a3 a6).mono ?_; rintro e w5 ⟨rfl, q, rfl⟩)
              go_ret
              exact ⟨rfl, below_drewN B4 q⟩
      · have hX' : (X.toList == [43]) = false := by rw [show (X.toList == [43]) = _ from hX]; simpa using hx
        have hd : (!(decide (x = pl) && dol y)) = true := by simp [hx]
        rw [hd, Bool.true_and]
        clear hX hY hY0 hYd hd
        go_enter Tryd.func7, Tryd.ntmps7
        go_wp2_with fail
        refine c1.mono ?_
        rintro e w1 ⟨rfl, hb1⟩
        go_wp2_with fail
        refine (rfilter_any g w1 hg (hT.below hb1)).mono ?_
        rintro e w2 ⟨rfl, hb2⟩
        rw [h2]
        have B2 := hb1.trans (hb2.mono hb1.size)
        go_wp2_with fail
        refine (cf w2).mono ?_
        rintro e w3 ⟨v1, rfl, ho1, hb3⟩
        obtain ⟨g1, m1, rfl, a1, a2, a3, rr1⟩ := owns_row ho1 n1
        have B3 := B2.trans (hb3.mono B2.size)
        go_wp2_with fail
        refine (cg w3).mono ?_
        rintro e w4 ⟨v2, rfl, ho2, hb4⟩
        obtain ⟨g2, m2, rfl, a4, a5, a6, rr2⟩ := owns_row ho2 n2
        have B4 := B3.trans (hb4.mono B3.size)
        have R1 := rr1.below hb4 a2
        have cx := R1 0 _ k1
        have cy := rr2 0 _ k2
        clear cf cg c1 ho1 ho2 hb1 hb2 hb3 hb4 B2 B3
        go_wp2_with (go_at_call 25; refine (coversR_any F G g1 0 m1 g2 0 m2 w4 R1 rr2 a3 a6).mono ?_; rintro e w5 ⟨rfl, q, rfl⟩)
        go_ret
        exact ⟨rfl, below_drewN B4 q⟩

end Go.Proofs.YtnlplnlclnbdiaaDoor
