/- For every two values, valid or not, the law of == either way round returns true, with new memory alone; the conditions: the values' trees in memory, their bits within 64, the two tables. -/
import Derived.Test.YtgpbnmlcfimnnaaDoorR64
import Derived.Test.YtgpbnmlcfimnnaaDoorNan
import Derived.Test.YtgpbnmlcfimnnaaDoorGroup
namespace Go.Proofs.YtgpbnmlcfimnnaaDoor
open Go.RowKit
theorem eqT_code : ∀ (n m : Nat) (a : Tr n) (b : Tr m), (eqT n m a b).2 = 0 ∨ (eqT n m a b).2 = 10
  | 0, _, a, _ => a.elim
  | _ + 1, 0, _, b => b.elim
  | n + 1, m + 1, a, b => by
    simp only [eqT]
    split
    · exact .inl rfl
    split
    · exact .inr rfl
    split
    · exact .inl rfl
    split
    · generalize a.ks = xs
      generalize b.ks = ys
      match xs, ys with
      | [a0, a1], [b0, b1] =>
        simp only [eqP]
        split
        · exact eqT_code n m a0 b0
        · exact eqT_code n m a1 b1
      | [], _ | [_], _ | _ :: _ :: _ :: _, _ | [_, _], [] | [_, _], [_] | [_, _], _ :: _ :: _ :: _ => exact .inl rfl
    · exact .inl rfl
/-- A slice's cells. -/
def Cl (w : World) (a : Option Addr) (xs : List Value) : Prop := ∀ (i : Nat) (u : Value), xs[i]? = some u → ∃ g, a = some ⟨g, 0, none⟩ ∧ w.cell? ⟨g, i, none⟩ = some u
theorem Cl.below {w w' : World} {a : Option Addr} {xs : List Value} (h : Cl w a xs) (hb : Below w.heap.size w w') : Cl w' a xs := fun i u hu => by
  obtain ⟨g, h1, h2⟩ := h i u hu
  exact ⟨g, h1, (hb.cell (p := ⟨g, i, none⟩) (World.block_lt_of_cell? w _ h2)).trans h2⟩
theorem cl_of_own {w : World} {base : Nat} {e : TypeId} {size : Nat} {v : Value} {n : Nat} {xs : List Value} (h : w.ownsRow base e size v n xs) : ∃ a c, v = .slice a n c ∧ Cl w a xs := by
  rcases h.2 with ⟨e, e0⟩ | ⟨g, cap, cur, e1, -⟩
  · refine ⟨none, 0, by rw [e, e0], fun i u hu => ?_⟩
    have hl := h.1
    rw [e0, Nat.zero_mul] at hl
    rw [List.length_eq_zero_iff.1 hl] at hu
    simp at hu
  · refine ⟨_, cap, e1, fun i u hu => ⟨g, rfl, ?_⟩⟩
    have := h.cells (g := g) (by rw [e1]; rfl) i u hu
    have hadd : (⟨g, 0, none⟩ : Addr).add i = ⟨g, i, none⟩ := by unfold Addr.add; split <;> simp_all
    rwa [hadd] at this

set_option maxRecDepth 100000 in
set_option maxHeartbeats 4000000 in
theorem mir_main (ta tb : Tr 16) (ka ia ua kb ib ub : Int) (sa sb : ByteArray) (pa pb : Option Addr) (la ca lb cb : Nat) (na nb : Nat) (ta0 : Tr na) (tb0 : Tr nb) (w : World)
    (rga : rgt 16 ta = true) (rgb : rgt 16 tb = true) (ptA : (pts 16 ta).1 ≤ 4096) (ptB : (pts 16 tb).1 ≤ 4096) (ra : Rep w 16 [.int .i64 ka, .int .i64 ia, .int .u64 ua, .string sa, .slice pa la ca] ta) (rb : Rep w 16 [.int .i64 kb, .int .i64 ib, .int .u64 ub, .string sb, .slice pb lb cb] tb) (h6 : r64 16 ta)
    (ra0 : Rep w na [.int .i64 ka, .int .i64 ia, .int .u64 ua, .string sa, .slice pa la ca] ta0) (rb0 : Rep w nb [.int .i64 kb, .int .i64 ib, .int .u64 ub, .string sb, .slice pb lb cb] tb0) (va : vB na ta0 = true) (vb : vB nb tb0 = true) (hT : Tab w) (hP : Pow0 w) :
    Calls Tryd.prog 6 #[.agg #[.int .i64 ka, .int .i64 ia, .int .u64 ua, .string sa, .slice pa la ca], .agg #[.int .i64 kb, .int .i64 ib, .int .u64 ub, .string sb, .slice pb lb cb]] w fun e w' => e = .returned (.bool true) ∧ Below w.heap.size w w' := by
  have b0 : Below w.heap.size w ((w.alloc (.cells #[.int .i64 ka, .int .i64 ia, .int .u64 ua, .string sa, .slice pa la ca] 25)).alloc (.cells #[.int .i64 kb, .int .i64 ib, .int .u64 ub, .string sb, .slice pb lb cb] 25)) := ((Below.refl _ w).alloc (Nat.le_refl _) _).alloc (by simp) _
  have da : D5 ((w.alloc (.cells #[.int .i64 ka, .int .i64 ia, .int .u64 ua, .string sa, .slice pa la ca] 25)).alloc (.cells #[.int .i64 kb, .int .i64 ib, .int .u64 ub, .string sb, .slice pb lb cb] 25)) w.heap.size (.int .i64 ka) (.int .i64 ia) (.int .u64 ua) (.string sa) (.slice pa la ca) := (D5.new w _ _ _ _ _).below (below1 _ _)
  have db : D5 ((w.alloc (.cells #[.int .i64 ka, .int .i64 ia, .int .u64 ua, .string sa, .slice pa la ca] 25)).alloc (.cells #[.int .i64 kb, .int .i64 ib, .int .u64 ub, .string sb, .slice pb lb cb] 25)) (w.heap.size + 1) (.int .i64 kb) (.int .i64 ib) (.int .u64 ub) (.string sb) (.slice pb lb cb) := by
    have := D5.new (w.alloc (.cells #[.int .i64 ka, .int .i64 ia, .int .u64 ua, .string sa, .slice pa la ca] 25)) (.int .i64 kb) (.int .i64 ib) (.int .u64 ub) (.string sb) (.slice pb lb cb)
    rw [World.size_alloc] at this
    exact this
  have HT := Lib.hid hT
  have HP := Lib.hid (Lib.tabBelow_of_tabIs hP)
  have HV := Lib.hid (And.intro va vb)
  have HA := Lib.hid (And.intro ra (And.intro rb (And.intro rga (And.intro rgb (And.intro ptA (And.intro ptB h6))))))
  have KZ : Hid (∀ wx : World, Below w.heap.size w wx → Calls Tryd.prog 12 #[] wx fun e w' => e = .returned (.bool true) ∧ Below w.heap.size w w') := fun wx hx =>
    (awake_any wx (HT.out.below hx) (HP.out.on hx).here).mono fun e w' ⟨he, hb⟩ => ⟨he, hx.trans (hb.mono hx.size)⟩
  clear hT hP va vb ra rb rga rgb ptA ptB h6
  go_enter Tryd.func6, Tryd.ntmps6
  go_wp2_with fail
  refine (refValid na ta0 _ _ _ _ _ _ (Rep.below b0 na _ _ ra0)).mono ?_
  rintro e w1 ⟨rfl, b1⟩
  rw [HV.out.1]
  have B1 := b0.trans (b1.mono b0.size)
  have da1 := da.below b1
  have db1 := db.below b1
  have cb1 := db1.c
  clear da db b0 b1
  go_wp2_with fail
  refine (refValid nb tb0 _ _ _ _ _ _ (Rep.below B1 nb _ _ rb0)).mono ?_
  rintro e w2 ⟨rfl, b2⟩
  rw [HV.out.2]
  have B2 := B1.trans (b2.mono B1.size)
  have da2 := da1.below b2
  have db2 := db1.below b2
  clear da1 db1 B1 b2 cb1 ra0 rb0 HV
  obtain ⟨x0, x1, x2, x3, x4⟩ := da2.c
  obtain ⟨y0, y1, y2, y3, y4⟩ := db2.c
  go_wp2_with fail
  refine (dequal_any 16 16 ta tb _ _ _ _ _ _ _ _ _ _ _ (by decide) HA.out.2.2.1 HA.out.2.2.2.1 HA.out.2.2.2.2.1 HA.out.2.2.2.2.2.1 (Rep.below B2 16 _ _ HA.out.1) (Rep.below B2 16 _ _ HA.out.2.1)).mono ?_
  rintro e w3 ⟨rfl, b3⟩
  have B3 := B2.trans (b3.mono B2.size)
  have da3 := da2.below b3
  have db3 := db2.below b3
  clear da2 db2 B2 b3 x0 x1 x2 x3 x4 y0 y1 y2 y3 y4
  obtain ⟨x0, x1, x2, x3, x4⟩ := da3.c
  obtain ⟨y0, y1, y2, y3, y4⟩ := db3.c
  go_wp2_with fail
  refine (dequal_any 16 16 tb ta _ _ _ _ _ _ _ _ _ _ _ (by decide) HA.out.2.2.2.1 HA.out.2.2.1 HA.out.2.2.2.2.2.1 HA.out.2.2.2.2.1 (Rep.below B3 16 _ _ HA.out.2.1) (Rep.below B3 16 _ _ HA.out.1)).mono ?_
  rintro e w4 ⟨rfl, b4⟩
  have B4 := B3.trans (b4.mono B3.size)
  have da4 := da3.below b4
  clear da3 db3 B3 b4 x0 x1 x2 x3 x4 y0 y1 y2 y3 y4
  obtain ⟨x0, x1, x2, x3, x4⟩ := da4.c
  rw [eqT_comm 16 16 tb ta]
  generalize eqT 16 16 ta tb = R
  obtain ⟨r1, r2⟩ := R
  have hc := eqT_code 16 16 ta ta
  have KE : Hid (∀ wx : World, Below w.heap.size w wx → Calls Tryd.prog 14 #[.agg #[.int .i64 ka, .int .i64 ia, .int .u64 ua, .string sa, .slice pa la ca], .agg #[.int .i64 ka, .int .i64 ia, .int .u64 ua, .string sa, .slice pa la ca]] wx fun e w' => e = .returned (.tuple #[.bool (eqT 16 16 ta ta).1, .int .i64 (eqT 16 16 ta ta).2]) ∧ Below wx.heap.size wx w') := fun wx hx =>
    dequal_any 16 16 ta ta _ _ _ _ _ _ _ _ _ _ _ (by decide) HA.out.2.2.1 HA.out.2.2.1 HA.out.2.2.2.2.1 HA.out.2.2.2.2.1 (Rep.below hx 16 _ _ HA.out.1) (Rep.below hx 16 _ _ HA.out.1)
  have KN : Hid (∀ wx : World, Below w.heap.size w wx → Calls Tryd.prog 21 #[.agg #[.int .i64 ka, .int .i64 ia, .int .u64 ua, .string sa, .slice pa la ca]] wx fun e w' => e = .returned (.bool (nanT 16 ta)) ∧ Below wx.heap.size wx w') := fun wx hx =>
    nan_any 16 ta _ _ _ _ _ wx HA.out.2.2.1 (Rep.below hx 16 _ _ HA.out.1)
  have KL : Hid (∀ wx : World, Below w.heap.size w wx → ([ta] = [] ∨ ∃ g o, (some ⟨wx.heap.size, 0, none⟩ : Option Addr) = some ⟨g, o, none⟩ ∧ ∀ (j : Nat) (t' : Tr 16), [ta][j]? = some t' → ∃ v0 v1 v2 v3 v4, (wx.alloc (.cells #[.int .i64 ka, .int .i64 ia, .int .u64 ua, .string sa, .slice pa la ca] 25)).cell? ⟨g, o + j * 5, none⟩ = some v0 ∧ (wx.alloc (.cells #[.int .i64 ka, .int .i64 ia, .int .u64 ua, .string sa, .slice pa la ca] 25)).cell? ⟨g, o + j * 5 + 1, none⟩ = some v1 ∧ (wx.alloc (.cells #[.int .i64 ka, .int .i64 ia, .int .u64 ua, .string sa, .slice pa la ca] 25)).cell? ⟨g, o + j * 5 + 2, none⟩ = some v2 ∧ (wx.alloc (.cells #[.int .i64 ka, .int .i64 ia, .int .u64 ua, .string sa, .slice pa la ca] 25)).cell? ⟨g, o + j * 5 + 3, none⟩ = some v3 ∧ (wx.alloc (.cells #[.int .i64 ka, .int .i64 ia, .int .u64 ua, .string sa, .slice pa la ca] 25)).cell? ⟨g, o + j * 5 + 4, none⟩ = some v4 ∧ Rep (wx.alloc (.cells #[.int .i64 ka, .int .i64 ia, .int .u64 ua, .string sa, .slice pa la ca] 25)) 16 [v0, v1, v2, v3, v4] t')) := fun wx hx => by
    refine .inr ⟨wx.heap.size, 0, rfl, fun j t' hj => ?_⟩
    have hj0 : j = 0 := by
      cases j with
      | zero => rfl
      | succ j => simp at hj
    subst hj0
    simp at hj
    subst hj
    obtain ⟨c0, c1, c2, c3, c4⟩ := (D5.new wx (.int .i64 ka) (.int .i64 ia) (.int .u64 ua) (.string sa) (.slice pa la ca)).c
    exact ⟨_, _, _, _, _, c0, c1, c2, c3, c4, Rep.below (hx.trans ((below1 wx _).mono hx.size)) 16 _ _ HA.out.1⟩
  have KG : Hid (∀ wx : World, Below w.heap.size w wx → Calls Tryd.prog 19 #[.slice (some ⟨wx.heap.size, 0, none⟩) 1 1] (wx.alloc (.cells #[.int .i64 ka, .int .i64 ia, .int .u64 ua, .string sa, .slice pa la ca] 25)) fun e w' =>
      (keyT 16 ta = true → ∃ g c, e = .returned (.tuple #[.slice (some ⟨g, 0, none⟩) 1 c, .int .i64 0]) ∧ w'.cell? ⟨g, 0, none⟩ = some (.int .i64 0)) ∧ (keyT 16 ta = false → e = .returned (.tuple #[.slice none 0 0, .int .i64 11])) ∧ Below w.heap.size w w' ∧ Below wx.heap.size wx w') := fun wx hx => by
    have hxa : Below w.heap.size w (wx.alloc (.cells #[.int .i64 ka, .int .i64 ia, .int .u64 ua, .string sa, .slice pa la ca] 25)) := hx.trans ((below1 wx _).mono hx.size)
    refine (group_any [ta] (some ⟨wx.heap.size, 0, none⟩) 1 _ (by simp) (fun t ht => by simp at ht; subst ht; exact HA.out.2.2.1) (fun t ht => by simp at ht; subst ht; exact HA.out.2.2.2.2.1) (KL.out wx hx)).mono fun e w' ⟨h1, h2, hb⟩ => ⟨fun hk => ?_, fun hk => h2 ⟨ta, by simp, hk⟩, hxa.trans (hb.mono hxa.size), (below1 wx _).trans (hb.mono (by simp))⟩
    obtain ⟨sl, rfl, own⟩ := h1 (fun t ht => by simp at ht; subst ht; exact hk)
    obtain ⟨a, c, rfl, cl⟩ := cl_of_own own
    obtain ⟨g, rfl, k⟩ := cl 0 (.int .i64 0) rfl
    exact ⟨g, c, rfl, k⟩
  have hself := self_key 16 ta HA.out.2.2.1 HA.out.2.2.2.2.2.2
  have hnot := self_no 16 ta HA.out.2.2.1
  cases hkey : keyT 16 ta with
  | true =>
    have e1 := hself hkey
    rw [e1] at KE
    have KG' : Hid (∀ wx : World, Below w.heap.size w wx → Calls Tryd.prog 19 #[.slice (some ⟨wx.heap.size, 0, none⟩) 1 1] (wx.alloc (.cells #[.int .i64 ka, .int .i64 ia, .int .u64 ua, .string sa, .slice pa la ca] 25)) fun e w' => ∃ g c, e = .returned (.tuple #[.slice (some ⟨g, 0, none⟩) 1 c, .int .i64 0]) ∧ w'.cell? ⟨g, 0, none⟩ = some (.int .i64 0) ∧ Below w.heap.size w w' ∧ Below wx.heap.size wx w') := fun wx hx =>
      (KG.out wx hx).mono fun e w' ⟨h1, _, hb⟩ => by
        obtain ⟨g, c, he, hk⟩ := h1 hkey
        exact ⟨g, c, he, hk, hb⟩
    generalize nanT 16 ta = nn at KE KN
    clear e1 hself hnot hkey KG hc KL
    go_wp2_with fail
    refine (KE.out _ B4).mono ?_
    rintro e w5 ⟨rfl, b5⟩
    have B5 := B4.trans (b5.mono B4.size)
    have da5 := da4.below b5
    clear x0 x1 x2 x3 x4 da4 b5 B4
    obtain ⟨x0, x1, x2, x3, x4⟩ := da5.c
    go_wp2_with fail
    refine (KG'.out _ B5).mono ?_
    rintro e w6 ⟨g, c, rfl, kc, B6, b6⟩
    have da6 := da5.below b6
    have hg6 : g < w6.heap.size := World.block_lt_of_cell? w6 _ kc
    clear x0 x1 x2 x3 x4 da5 b6 B5
    obtain ⟨x0, x1, x2, x3, x4⟩ := da6.c
    go_wp2_with fail
    refine (KN.out _ B6).mono ?_
    rintro e w7 ⟨rfl, b7⟩
    have B7 := B6.trans (b7.mono B6.size)
    have kc7 := (b7.cell (p := ⟨g, 0, none⟩) hg6).trans kc
    clear x0 x1 x2 x3 x4 kc
    go_wp2_with fail
    refine (KZ.out _ B7).mono ?_
    rintro e wz ⟨rfl, bz⟩
    go_wp2_with fail
    go_ret
    exact ⟨rfl, bz⟩
  | false =>
    have e1 := hnot hkey
    rw [e1] at KE
    have KG' : Hid (∀ wx : World, Below w.heap.size w wx → Calls Tryd.prog 19 #[.slice (some ⟨wx.heap.size, 0, none⟩) 1 1] (wx.alloc (.cells #[.int .i64 ka, .int .i64 ia, .int .u64 ua, .string sa, .slice pa la ca] 25)) fun e w' => e = .returned (.tuple #[.slice none 0 0, .int .i64 11]) ∧ Below w.heap.size w w') := fun wx hx =>
      (KG.out wx hx).mono fun e w' ⟨_, h2, hb⟩ => ⟨h2 hkey, hb.1⟩
    generalize eqT 16 16 ta ta = R2 at KE hc
    obtain ⟨q1, q2⟩ := R2
    have hc : q2 = 0 ∨ q2 = 10 := hc
    clear e1 hself hnot hkey KG KL
    rcases hc with rfl | rfl
    all_goals go_wp2_with fail
    all_goals refine (KE.out _ B4).mono ?_
    all_goals rintro e w5 ⟨rfl, b5⟩
    all_goals have B5 := B4.trans (b5.mono B4.size)
    all_goals have da5 := da4.below b5
    all_goals clear x0 x1 x2 x3 x4 da4 b5 B4
    all_goals obtain ⟨x0, x1, x2, x3, x4⟩ := da5.c
    all_goals go_wp2_with fail
    all_goals refine (KG'.out _ B5).mono ?_
    all_goals rintro e w6 ⟨rfl, B6⟩
    all_goals go_wp2_with fail
    all_goals refine (KZ.out _ B6).mono ?_
    all_goals rintro e wz ⟨rfl, bz⟩
    all_goals go_wp2_with fail
    all_goals go_ret
    all_goals exact ⟨rfl, bz⟩

set_option maxRecDepth 100000 in
set_option maxHeartbeats 2000000 in
theorem law_mirrors (na nb : Nat) (ta : Tr na) (tb : Tr nb) (ka ia ua kb ib ub : Int) (sa sb : ByteArray) (pa pb : Option Addr) (la ca lb cb : Nat) (w : World)
    (ra : Rep w na [.int .i64 ka, .int .i64 ia, .int .u64 ua, .string sa, .slice pa la ca] ta) (rb : Rep w nb [.int .i64 kb, .int .i64 ib, .int .u64 ub, .string sb, .slice pb lb cb] tb) (h6 : r64 na ta) (hT : Tab w) (hP : Pow0 w) :
    Calls Tryd.prog 6 #[.agg #[.int .i64 ka, .int .i64 ia, .int .u64 ua, .string sa, .slice pa la ca], .agg #[.int .i64 kb, .int .i64 ib, .int .u64 ub, .string sb, .slice pb lb cb]] w fun e w' => e = .returned (.bool true) ∧ Below w.heap.size w w' := by
  cases hA : vB na ta with
  | false =>
    have b0 : Below w.heap.size w ((w.alloc (.cells #[.int .i64 ka, .int .i64 ia, .int .u64 ua, .string sa, .slice pa la ca] 25)).alloc (.cells #[.int .i64 kb, .int .i64 ib, .int .u64 ub, .string sb, .slice pb lb cb] 25)) := ((Below.refl _ w).alloc (Nat.le_refl _) _).alloc (by simp) _
    have HT := Lib.hid hT
    have HP := Lib.hid (Lib.tabBelow_of_tabIs hP)
    have HV := Lib.hid hA
    clear hT hP hA rb h6
    go_enter Tryd.func6, Tryd.ntmps6
    go_wp2_with fail
    refine (refValid na ta _ _ _ _ _ _ (Rep.below b0 na _ _ ra)).mono ?_
    rintro e w1 ⟨rfl, b1⟩
    rw [HV.out]
    have B1 := b0.trans (b1.mono b0.size)
    clear b0 b1
    go_wp2_with fail
    refine (awake_any _ (HT.out.below B1) (HP.out.on B1).here).mono ?_
    rintro e w3 ⟨rfl, b3⟩
    go_wp2_with fail
    go_ret
    exact ⟨rfl, B1.trans (b3.mono B1.size)⟩
  | true =>
    cases hB : vB nb tb with
    | false =>
      have b0 : Below w.heap.size w ((w.alloc (.cells #[.int .i64 ka, .int .i64 ia, .int .u64 ua, .string sa, .slice pa la ca] 25)).alloc (.cells #[.int .i64 kb, .int .i64 ib, .int .u64 ub, .string sb, .slice pb lb cb] 25)) := ((Below.refl _ w).alloc (Nat.le_refl _) _).alloc (by simp) _
      have db : D5 ((w.alloc (.cells #[.int .i64 ka, .int .i64 ia, .int .u64 ua, .string sa, .slice pa la ca] 25)).alloc (.cells #[.int .i64 kb, .int .i64 ib, .int .u64 ub, .string sb, .slice pb lb cb] 25)) (w.heap.size + 1) (.int .i64 kb) (.int .i64 ib) (.int .u64 ub) (.string sb) (.slice pb lb cb) := by
        have := D5.new (w.alloc (.cells #[.int .i64 ka, .int .i64 ia, .int .u64 ua, .string sa, .slice pa la ca] 25)) (.int .i64 kb) (.int .i64 ib) (.int .u64 ub) (.string sb) (.slice pb lb cb)
        rw [World.size_alloc] at this
        exact this
      have HT := Lib.hid hT
      have HP := Lib.hid (Lib.tabBelow_of_tabIs hP)
      have HV := Lib.hid (And.intro hA hB)
      clear hT hP hA hB h6
      go_enter Tryd.func6, Tryd.ntmps6
      go_wp2_with fail
      refine (refValid na ta _ _ _ _ _ _ (Rep.below b0 na _ _ ra)).mono ?_
      rintro e w1 ⟨rfl, b1⟩
      rw [HV.out.1]
      have B1 := b0.trans (b1.mono b0.size)
      have cb1 := (db.below b1).c
      clear b0 b1 db
      go_wp2_with fail
      refine (refValid nb tb _ _ _ _ _ _ (Rep.below B1 nb _ _ rb)).mono ?_
      rintro e w2 ⟨rfl, b2⟩
      rw [HV.out.2]
      have B2 := B1.trans (b2.mono B1.size)
      clear B1 b2 cb1
      go_wp2_with fail
      refine (awake_any _ (HT.out.below B2) (HP.out.on B2).here).mono ?_
      rintro e w3 ⟨rfl, b3⟩
      go_wp2_with fail
      go_ret
      exact ⟨rfl, B2.trans (b3.mono B2.size)⟩
    | true =>
      obtain ⟨ta', a1, a2, a3, a4⟩ := cut64 na ta hA h6
      obtain ⟨tb', c1, c2, c3⟩ := cut_one nb tb hB
      exact mir_main ta' tb' ka ia ua kb ib ub sa sb pa pb la ca lb cb na nb ta tb w a1 c1 a2 c2 (a3 w _ ra) (c3 w _ rb) a4 ra rb hA hB hT hP
end Go.Proofs.YtgpbnmlcfimnnaaDoor
