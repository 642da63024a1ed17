/- The document's own answer, walked: Meets of the reference at every two texts, held against what the program answers; what is asked of the world: the two tables of unicode/utf8 as their text lays them. -/
import Derived.Test.YtkkahijacbboiaaDoorRf
namespace Go.Proofs.YtkkahijacbboiaaDoor
open Go.RowKit Tp

/-- What the reference answers. -/
def meetsR (f g : Bs) : Bool := isFilter f && isFilter g && match srch (spr f) (spr g) with
  | none => false
  | some s => decide (max (Lib.lens (least s) + (least s).length - 1) 1 ≤ 65535) && !(dol ((least s).headD []) && (decide ((spr f).headD [] = pl) || decide ((spr g).headD [] = pl)))

theorem least_nmL : ∀ (s : List Bs), (∀ k, s[k]? = some ha → k + 1 = s.length) → least s = nmL s
  | [], _ => rfl
  | x :: r, hl => by
    by_cases hx : x = ha
    · subst hx
      have e1 : r = [] := List.length_eq_zero_iff.1 (by have := hl 0 rfl; rw [List.length_cons] at this; omega)
      subst e1
      rfl
    · rw [least, nmL, if_neg hx, if_neg hx, least_nmL r (last_cons hl)]

theorem meets_ref (f g : Bs) : (common f g).isSome = meetsR f g := by
  unfold meetsR
  cases h1 : isFilter f with
  | false => simp [common, shared, h1]
  | true =>
    cases h2 : isFilter g with
    | false => simp [common, shared, h2]
    | true =>
      simp only [Bool.true_and]
      have g1 := spr_gd h1
      have g2 := spr_gd h2
      unfold common
      rw [shared_shD h1 h2, shD]
      cases hs : srch (spr f) (spr g) with
      | none => rw [ite_self]; rfl
      | some s =>
        have hlast := srch_last _ _ _ hs g1.1.last g2.1.last
        dsimp only
        rw [least_nmL s hlast]
        obtain ⟨z, r, hzr, hzh⟩ := srch_head hs spr_ne spr_ne g1.2.1 g2.2.1
        have hnm : nmL s ≠ [] := by rw [hzr, nmL, if_neg hzh]; simp
        have hdz : dol ((nmL s).headD []) = dol z := by
          rw [hzr, nmL, if_neg hzh]
          simp only [List.headD_cons]
          split
          · rename_i e; rw [e]; rfl
          · rfl
        have hlen : ((sname s).length ≤ 65535) ↔ max (Lib.lens (nmL s) + (nmL s).length - 1) 1 ≤ 65535 := by
          unfold sname
          split
          · rename_i e; rw [e]; decide
          · have := glue_len _ hnm
            omega
        rw [hdz]
        obtain ⟨x, F, hxF⟩ : ∃ x F, spr f = x :: F := by
          cases hh : spr f with
          | nil => exact absurd hh spr_ne
          | cons y G => exact ⟨y, G, rfl⟩
        obtain ⟨y, G, hyG⟩ : ∃ y G, spr g = y :: G := by
          cases hh : spr g with
          | nil => exact absurd hh spr_ne
          | cons y G => exact ⟨y, G, rfl⟩
        have gx := g1.2.1
        have gy := g2.2.1
        have ex : (spr f).headD [] = x := by rw [hxF]; rfl
        have ey : (spr g).headD [] = y := by rw [hyG]; rfl
        rw [ex, ey]
        rw [hxF] at gx hs
        rw [hyG] at gy hs
        rw [hzr] at hs
        simp only [List.headD_cons] at gx gy
        simp only [srch, if_neg gx, if_neg gy] at hs
        have hz : (x = pl → z = y) ∧ (y = pl → z = x) := by
          constructor
          · intro hx
            rw [if_pos hx] at hs
            obtain ⟨t, _, ht⟩ := Option.map_eq_some_iff.1 hs
            exact ((List.cons.inj ht).1).symm
          · intro hy
            by_cases hx : x = pl
            · rw [if_pos hx] at hs
              obtain ⟨t, _, ht⟩ := Option.map_eq_some_iff.1 hs
              rw [← (List.cons.inj ht).1, hy, hx]
            · rw [if_neg hx, if_pos hy] at hs
              obtain ⟨t, _, ht⟩ := Option.map_eq_some_iff.1 hs
              exact ((List.cons.inj ht).1).symm
        have dp : dol pl = false := rfl
        have hiff : (x ≠ y ∧ (dol x = true ∨ dol y = true) ∧ (x = pl ∨ y = pl)) ↔ (dol z = true ∧ (x = pl ∨ y = pl)) := by
          constructor
          · rintro ⟨_, c2, c3⟩
            refine ⟨?_, c3⟩
            rcases c3 with c3 | c3
            · rw [hz.1 c3]
              rcases c2 with c2 | c2
              · rw [c3, dp] at c2; cases c2
              · exact c2
            · rw [hz.2 c3]
              rcases c2 with c2 | c2
              · exact c2
              · rw [c3, dp] at c2; cases c2
          · rintro ⟨d1, c3⟩
            rcases c3 with c3 | c3
            · rw [hz.1 c3] at d1
              exact ⟨by rw [c3]; exact Ne.symm (dol_no d1).1, .inr d1, .inl c3⟩
            · rw [hz.2 c3] at d1
              exact ⟨by rw [c3]; exact (dol_no d1).1, .inl d1, .inr c3⟩
        by_cases hh : dol z = true ∧ (x = pl ∨ y = pl)
        · rw [if_pos (hiff.2 hh)]
          have e : (dol z && (decide (x = pl) || decide (y = pl))) = true := by
            rw [hh.1, Bool.true_and]
            rcases hh.2 with e | e <;> simp [e]
          rw [e]
          simp
        · rw [if_neg (fun h => hh (hiff.1 h))]
          have e : (dol z && (decide (x = pl) || decide (y = pl))) = false := by
            cases hd : dol z with
            | false => rfl
            | true =>
              rw [Bool.true_and, Bool.or_eq_false_iff, decide_eq_false_iff_not, decide_eq_false_iff_not]
              exact ⟨fun e => hh ⟨hd, .inl e⟩, fun e => hh ⟨hd, .inr e⟩⟩
          rw [e]
          dsimp only
          by_cases hl : (sname s).length ≤ 65535
          · rw [if_pos hl, decide_eq_true (hlen.1 hl)]; rfl
          · rw [if_neg hl, decide_eq_false (fun h => hl (hlen.2 h))]; rfl

theorem lens_step (Z : List Bs) (k : Nat) (hk : k < Z.length) : Lib.lens (Z.take (k + 1)) = Lib.lens (Z.take k) + Z[k].length := Lib.lens_take_succ Z k Z[k] (List.getElem?_eq_getElem hk)

theorem least_lens : ∀ L : List Bs, Lib.lens (least L) ≤ Lib.lens L
  | [] => Nat.le_refl _
  | x :: r => by
    have := least_lens r
    unfold least
    split
    · simp [Lib.lens]
    · rw [lens_cons, lens_cons]
      split
      · simp only [List.length_nil]; omega
      · omega

set_option maxRecDepth 100000 in
set_option maxHeartbeats 4000000 in
theorem rmeets_any (f g : ByteArray) (w : World) (hf : f.size ≤ 9223372036854775807) (hg : g.size ≤ 9223372036854775807) (hT : Tabs w) :
    Calls Tryd.prog 20 #[.string f, .string g] w fun e w' => e = .returned (.bool (meetsR (tl f) (tl g))) ∧ Below w.heap.size w w' := by
  have c1 := rfilter_any f w hf hT
  unfold meetsR
  cases h1 : isFilter (tl f) with
  | false =>
    rw [h1] at c1
    simp only [Bool.false_and]
    go_enter Tryd.func20, Tryd.ntmps20
    go_wp2_with (go_at_call 12; refine c1.mono ?_; rintro e w1 ⟨rfl, hb1⟩)
    go_ret
    exact ⟨rfl, hb1⟩
  | true =>
    rw [h1] at c1
    cases h2 : isFilter (tl g) with
    | false =>
      simp only [Bool.false_and, Bool.and_false]
      go_enter Tryd.func20, Tryd.ntmps20
      go_wp2_with fail
      refine c1.mono ?_
      rintro e w1 ⟨rfl, hb1⟩
      go_wp2_with fail
      refine (rfilter_any g w1 hg (hT.below hb1)).mono ?_
      rintro e w2 ⟨rfl, hb2⟩
      rw [h2]
      go_wp2
      go_ret
      exact ⟨rfl, hb1.trans (hb2.mono hb1.size)⟩
    | true =>
      simp only [Bool.true_and]
      have cf := fun w => spread_any f w h1
      have cg := fun w => spread_any g w h2
      obtain ⟨r1, e1⟩ := map_bs_cons (spr_gd h1).1.ne
      obtain ⟨r2, e2⟩ := map_bs_cons (spr_gd h2).1.ne
      have l1 := (spr_gd h1).2.2
      have l2 := (spr_gd h2).2.2
      have n1 : (spr (tl f)).map bs ≠ [] := by simpa using (spr_gd h1).1.ne
      have n2 : (spr (tl g)).map bs ≠ [] := by simpa using (spr_gd h2).1.ne
      have k1 : ((spr (tl f)).map bs)[0]? = some (bs ((spr (tl f)).headD [])) := by rw [e1]; rfl
      have k2 : ((spr (tl g)).map bs)[0]? = some (bs ((spr (tl g)).headD [])) := by rw [e2]; rfl
      have m1 : ((spr (tl f)).map bs).length = (spr (tl f)).length := List.length_map _
      have m2 : ((spr (tl g)).map bs).length = (spr (tl g)).length := List.length_map _
      have p1 : 0 < (spr (tl f)).length := List.length_pos_iff.2 (spr_gd h1).1.ne
      have p2 : 0 < (spr (tl g)).length := List.length_pos_iff.2 (spr_gd h2).1.ne
      cases hs : srch (spr (tl f)) (spr (tl g)) with
      | none =>
        have hsr : shR (spr (tl f)) (spr (tl g)) = none := by rw [shR, hs]; rfl
        dsimp only
        clear e1 e2 hs
        generalize spr (tl f) = F at *
        generalize spr (tl g) = G at *
        go_enter Tryd.func20, Tryd.ntmps20
        go_wp2_with fail
        refine c1.mono ?_
        rintro e w1 ⟨rfl, hb1⟩
        go_wp2_with fail
        refine (rfilter_any g w1 hg (hT.below hb1)).mono ?_
        rintro e w2 ⟨rfl, hb2⟩
        rw [h2]
        have B2 := hb1.trans (hb2.mono hb1.size)
        go_wp2_with fail
        refine (cf w2).mono ?_
        rintro e w3 ⟨v1, rfl, ho1, hb3⟩
        obtain ⟨g1, q1, rfl, a1, a2, a3, rr1⟩ := owns_row ho1 n1
        have B3 := B2.trans (hb3.mono B2.size)
        go_wp2_with fail
        refine (cg w3).mono ?_
        rintro e w4 ⟨v2, rfl, ho2, hb4⟩
        obtain ⟨g2, q2, rfl, a4, a5, a6, rr2⟩ := owns_row ho2 n2
        have B4 := B3.trans (hb4.mono B3.size)
        have R1 := rr1.below hb4 a2
        rw [m1] at a3
        rw [m2] at a6 ⊢
        have cs := shortest_any F G g1 0 q1 g2 0 q2 w4 R1 rr2 (Nat.lt_of_lt_of_le a2 hb4.size) a5 a3 a6 (by omega) (by omega)
        rw [hsr] at cs
        clear cf cg c1 ho1 ho2 hb1 hb2 hb3 hb4 B2 B3
        go_wp2_with fail
        refine cs.mono ?_
        rintro e w5 ⟨hb5, v, rfl, _, _⟩
        go_wp2
        go_ret
        exact ⟨rfl, B4.trans (hb5.mono B4.size)⟩
      | some s =>
        have hsr : shR (spr (tl f)) (spr (tl g)) = some ((least s).map bs) := by rw [shR, hs]; rfl
        dsimp only
        obtain ⟨z, r, hzr, hzh⟩ := srch_head hs spr_ne spr_ne (spr_gd h1).2.1 (spr_gd h2).2.1
        have hzne : least s ≠ [] := by rw [hzr, least, if_neg hzh]; simp
        have hzl : (least s).length ≤ 70000 := by
          have q1 := least_len s
          have q2 := srch_len _ _ _ hs
          omega
        have hzs : Lib.lens (least s) ≤ 200000 := by
          have q1 := least_lens s
          have q2 := srch_lens _ _ _ hs
          have q3 := spr_lens h1
          have q4 := spr_lens h2
          omega
        clear e1 e2 hs hzr hzh
        have mz : ((least s).map bs).length = (least s).length := List.length_map _
        have nz : (least s).map bs ≠ [] := by simpa using hzne
        obtain ⟨r0, e0⟩ := map_bs_cons hzne
        have k0 : ((least s).map bs)[0]? = some (bs ((least s).headD [])) := by rw [e0]; rfl
        clear e0
        have hX : (tl (bs ((spr (tl f)).headD [])) == [43]) = decide ((spr (tl f)).headD [] = pl) := by rw [tl_bs]; exact Bool.beq_eq_decide_eq _ _
        have hY : (tl (bs ((spr (tl g)).headD [])) == [43]) = decide ((spr (tl g)).headD [] = pl) := by rw [tl_bs]; exact Bool.beq_eq_decide_eq _ _
        have hZd : dol ((least s).headD []) = dol (tl (bs ((least s).headD []))) := by rw [tl_bs]
        rw [hZd]
        obtain ⟨P1, hP1⟩ : ∃ P, decide ((spr (tl f)).headD [] = pl) = P := ⟨_, rfl⟩
        obtain ⟨P2, hP2⟩ : ∃ P, decide ((spr (tl g)).headD [] = pl) = P := ⟨_, rfl⟩
        rw [hP1] at hX ⊢
        rw [hP2] at hY ⊢
        clear hP1 hP2 hZd
        generalize bs ((spr (tl f)).headD []) = X at *
        generalize bs ((spr (tl g)).headD []) = Y at *
        generalize bs ((least s).headD []) = Z0 at *
        generalize spr (tl f) = F at *
        generalize spr (tl g) = G at *
        generalize least s = Z at *
        obtain ⟨RES, hRES⟩ : ∃ RES, (decide (max (Lib.lens Z + Z.length - 1) 1 ≤ 65535) && !(dol (tl Z0) && (P1 || P2))) = RES := ⟨_, rfl⟩
        rw [hRES]
        have HR : Hid ((decide (max (Lib.lens Z + Z.length - 1) 1 ≤ 65535) && !(dol (tl Z0) && (P1 || P2))) = RES) := hRES
        clear hRES
        have hp := List.length_pos_iff.2 hzne
        go_enter Tryd.func20, Tryd.ntmps20
        go_wp2_with fail
        refine c1.mono ?_
        rintro e w1 ⟨rfl, hb1⟩
        go_wp2_with fail
        refine (rfilter_any g w1 hg (hT.below hb1)).mono ?_
        rintro e w2 ⟨rfl, hb2⟩
        rw [h2]
        have B2 := hb1.trans (hb2.mono hb1.size)
        go_wp2_with fail
        refine (cf w2).mono ?_
        rintro e w3 ⟨v1, rfl, ho1, hb3⟩
        obtain ⟨g1, q1, rfl, a1, a2, a3, rr1⟩ := owns_row ho1 n1
        have B3 := B2.trans (hb3.mono B2.size)
        go_wp2_with fail
        refine (cg w3).mono ?_
        rintro e w4 ⟨v2, rfl, ho2, hb4⟩
        obtain ⟨g2, q2, rfl, a4, a5, a6, rr2⟩ := owns_row ho2 n2
        have B4 := B3.trans (hb4.mono B3.size)
        have R1 := rr1.below hb4 a2
        rw [m1] at a3
        rw [m2] at a6 ⊢
        have a2' := Nat.lt_of_lt_of_le a2 hb4.size
        have cs := shortest_any F G g1 0 q1 g2 0 q2 w4 R1 rr2 a2' a5 a3 a6 (by omega) (by omega)
        rw [hsr] at cs
        clear cf cg c1 ho1 ho2 hb1 hb2 hb3 hb4 B2 B3
        go_wp2_with fail
        refine cs.mono ?_
        rintro e w5 ⟨hb5, v, rfl, _, ho5⟩
        obtain ⟨g3, q3, rfl, a7, a8, a9, rr3⟩ := owns_row (ho5 _ rfl) nz
        rw [mz] at a9 ⊢
        have B5 := B4.trans (hb5.mono B4.size)
        have cX := (R1.below hb5 a2') 0 _ k1
        have cY := (rr2.below hb5 a5) 0 _ k2
        have cZ := rr3 0 _ k0
        clear cs ho5 hb5 R1 rr1 rr2 hsr
        go_wp2
        go_loopg [9, 37] Z.length (fun g s9 s37 wx => ∃ k : Nat, k + g = Z.length ∧ s37 = .int .i64 k ∧ s9 = .int .i64 ((Z.length - 1 + Lib.lens (Z.take k) : Nat) : Int) ∧ wx = w5)
        case atStart => exact ⟨0, by omega, rfl, by simp [Lib.lens]; omega, rfl⟩
        case round =>
          obtain ⟨k, hkg, rfl, rfl, rfl⟩ := hrel
          cases gk with
          | zero =>
            obtain rfl : k = Z.length := by omega
            rw [List.take_length]
            have hAA : Lib.lens Z + Z.length - 1 = Z.length - 1 + Lib.lens Z := by omega
            obtain ⟨A, hA⟩ : ∃ A, Z.length - 1 + Lib.lens Z = A := ⟨_, rfl⟩
            rw [hA]
            have HR' : Hid ((decide (max A 1 ≤ 65535) && !(dol (tl Z0) && (P1 || P2))) = RES) := by
              have := HR
              rwa [hAA, hA] at this
            clear HR hAA
            have hAb : A ≤ 1000000 := by omega
            clear hA
            by_cases hm : A ≤ 65535
            · have hm1 : max (A : Int) 1 ≤ 65535 := by omega
              have hd : decide (max A 1 ≤ 65535) = true := by rw [decide_eq_true_eq]; omega
              by_cases hz0 : tl Z0 = []
              · have hZe : Z0.toList.isEmpty = true := by rw [show Z0.toList = [] from hz0]; rfl
                have hval : RES = true := by rw [← show _ = RES from HR', hd, hz0]; rfl
                clear HR' hd hz0 hX hY cX cY
                go_wp2
                go_ret
                exact ⟨ret_b hval.symm, B5⟩
              · have hZe : Z0.toList.isEmpty = false := by simpa using hz0
                have hsz : 0 < Z0.size := by rw [← tl_size]; exact List.length_pos_iff.2 hz0
                have hdg := dol_get Z0 hsz
                have hu := u36 (Z0[0]'hsz)
                cases hb0 : (Z0[0]'hsz == 36) with
                | false =>
                  rw [hb0] at hu hdg
                  have hval : RES = true := by rw [← show _ = RES from HR', hd, hdg]; rfl
                  clear HR' hd hz0 hdg hb0 hX hY cX cY
                  go_wp2
                  go_ret
                  exact ⟨ret_b hval.symm, B5⟩
                | true =>
                  rw [hb0] at hu hdg
                  cases P1 with
                  | true =>
                    have hval : RES = false := by rw [← show _ = RES from HR', hd, hdg]; rfl
                    clear HR' hd hz0 hdg hb0
                    go_wp2
                    go_ret
                    exact ⟨ret_b hval.symm, B5⟩
                  | false =>
                    cases P2 with
                    | true =>
                      have hval : RES = false := by rw [← show _ = RES from HR', hd, hdg]; rfl
                      clear HR' hd hz0 hdg hb0
                      go_wp2
                      go_ret
                      exact ⟨ret_b hval.symm, B5⟩
                    | false =>
                      have hval : RES = true := by rw [← show _ = RES from HR', hd, hdg]; rfl
                      clear HR' hd hz0 hdg hb0
                      go_wp2
                      go_ret
                      exact ⟨ret_b hval.symm, B5⟩
            · have hm1 : ¬ max (A : Int) 1 ≤ 65535 := by omega
              have hd : decide (max A 1 ≤ 65535) = false := by rw [decide_eq_false_iff_not]; omega
              have hval : RES = false := by rw [← show _ = RES from HR', hd]; rfl
              clear hd HR' hX hY cX cY
              by_cases hz0 : tl Z0 = []
              · have hZe : Z0.toList.isEmpty = true := by rw [show Z0.toList = [] from hz0]; rfl
                clear hz0
                go_wp2
                go_ret
                first | exact ⟨ret_b hval.symm, B5⟩ | exact ⟨rfl, B5⟩
              · have hZe : Z0.toList.isEmpty = false := by simpa using hz0
                have hsz : 0 < Z0.size := by rw [← tl_size]; exact List.length_pos_iff.2 hz0
                clear hz0
                go_wp2
                go_ret
                first | exact ⟨ret_b hval.symm, B5⟩ | exact ⟨rfl, B5⟩
          | succ g =>
            have hk : k < Z.length := by omega
            have hst := lens_step Z k hk
            have cx := rr3.bs k hk
            rw [Nat.zero_add] at cx
            have hsz : (bs Z[k]).size = Z[k].length := by rw [← tl_size, tl_bs]
            have hle : Lib.lens (Z.take (k + 1)) ≤ Lib.lens Z := Lib.lens_take_le Z (k + 1)
            generalize Z[k].length = zl at hst hsz
            generalize bs Z[k] = XX at cx hsz
            obtain ⟨A, hA⟩ : ∃ A, Z.length - 1 + Lib.lens (Z.take k) = A := ⟨_, rfl⟩
            have hA' : Z.length - 1 + Lib.lens (Z.take (k + 1)) = A + XX.size := by omega
            have hAb : A + XX.size ≤ 1000000 := by omega
            rw [hA]
            clear hst hA hsz hle
            go_wp2
            go_roundg g
            case measure => omega
            case rel => exact ⟨k + 1, by omega, by simp, by rw [hA']; simp, rfl⟩
end Go.Proofs.YtkkahijacbboiaaDoor
