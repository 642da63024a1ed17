/- Which messages, which states are fit, as the document has it: an answer, and what a yes tells; the conditions: what lies in memory, the two tables of unicode/utf8. -/
import Derived.Test.YtikkedemhcdboaaDoorBt
import Derived.Test.YtikkedemhcdboaaDoorBe
import Derived.Test.YtikkedemhcdboaaDoorDRv
namespace Go.Proofs.YtikkedemhcdboaaDoor
open Go.RowKit Tp

theorem valid_pts {n : Nat} {t : Dt.Tr n} (h : Dt.vB n t = true) : Dt.rgt n t = true ∧ (Dt.pts n t).1 ≤ 4096 := by
  have S := Dt.say 16 n t 1 4096 (by decide) (by decide) (by decide)
  obtain ⟨h1, h2, -⟩ := S.down h
  obtain ⟨h3, -, h4, -, -⟩ := S.fit h2
  refine ⟨h1, ?_⟩
  rw [h3]; exact h4
/-- Is it a tick? -/
def tkB (v : Int) : Bool := decide (0 ≤ v) && decide (v ≤ 1099511627776)
set_option maxHeartbeats 1000000 in
theorem tick_any (v : Int) (w : World) : Calls Tryd.prog 24 #[.int .i64 v] w fun e w' => e = .returned (.bool (tkB v)) ∧ w' = w := by
  unfold tkB
  by_cases h1 : 0 ≤ v
  · by_cases h2 : v ≤ 1099511627776
    · go_enter Tryd.func24, Tryd.ntmps24
      go_wp2
      go_ret
      exact ⟨ret_b (by simp [h1, h2]), rfl⟩
    · go_enter Tryd.func24, Tryd.ntmps24
      go_wp2
      go_ret
      exact ⟨ret_b (by simp; omega), rfl⟩
  · go_enter Tryd.func24, Tryd.ntmps24
    go_wp2
    go_ret
    exact ⟨ret_b (by simp; intro h; omega), rfl⟩
/-- Is it a fit message? -/
def fmB (x : Ms) : Bool := Dt.vB x.n x.t && (isName (tl x.tp) && ((x.rp.toList.isEmpty || isName (tl x.rp)) && (tkB x.ti && (tkB x.un && (decide (0 ≤ x.ho) && decide (x.ho ≤ 8))))))

set_option maxRecDepth 100000 in
set_option maxHeartbeats 4000000 in
theorem fmsg_any (x : Ms) (d : Bo) (w : World) (h : Dt.Rep w x.n d.vs x.t) (hT : Tabs w) (h1 : x.tp.size ≤ 9223372036854775807) (h2 : x.rp.size ≤ 9223372036854775807) :
    Calls Tryd.prog 7 #[.agg (x.cs d)] w fun e w' => e = .returned (.bool (fmB x)) ∧ Below w.heap.size w w' := by
  have B0 := below1 w (.cells (x.cs d) 30)
  have M0 := Bk.new w (x.cs d) 30
  have HV : Hid (∀ wx, Below w.heap.size w wx → Calls Tryd.prog 22 #[.agg #[.int .i64 d.k, .int .i64 d.i, .int .u64 d.u, .string d.s, .slice d.a d.l d.c]] wx fun e w' => e = .returned (.bool (Dt.vB x.n x.t)) ∧ Below wx.heap.size wx w') := fun wx hb => Dt.refValid x.n x.t _ _ _ _ _ wx (Dt.Rep.below hb _ _ _ h)
  have HN : Hid (∀ wx, Below w.heap.size w wx → Calls Tryd.prog 23 #[.string x.tp] wx fun e w' => e = .returned (.bool (isName (tl x.tp))) ∧ Below wx.heap.size wx w') := fun wx hb => rname_any x.tp wx h1 (hT.below hb)
  have HR : Hid (∀ wx, Below w.heap.size w wx → Calls Tryd.prog 23 #[.string x.rp] wx fun e w' => e = .returned (.bool (isName (tl x.rp))) ∧ Below wx.heap.size wx w') := fun wx hb => rname_any x.rp wx h2 (hT.below hb)
  have mk1 : Hid True := trivial
  clear h hT h1 h2
  unfold fmB
  cases hv : Dt.vB x.n x.t with
  | false =>
    go_enter Tryd.func7, Tryd.ntmps7
    go_wp2_with (first | (go_at_call 22; refine (HV.out _ B0).mono ?_; rintro e w1 ⟨rfl, b1⟩; rw [hv]; have M1 := M0.step b1; have B1 := B0.trans (b1.mono B0.size); obtain ⟨m0, m1, m2, m3, m4, m5, m6, m7, m8, m9, m10, m11, m12⟩ := M1.c13; clear M0))
    go_ret
    exact ⟨rfl, B1⟩
  | true =>
    cases hn : isName (tl x.tp) with
    | false =>
      go_enter Tryd.func7, Tryd.ntmps7
      go_wp2_with (first | (go_at_call 22; refine (HV.out _ B0).mono ?_; rintro e w1 ⟨rfl, b1⟩; rw [hv]; have M1 := M0.step b1; have B1 := B0.trans (b1.mono B0.size); obtain ⟨m0, m1, m2, m3, m4, m5, m6, m7, m8, m9, m10, m11, m12⟩ := M1.c13; clear M0) | (go_at_call 23; have mk1' := mk1; clear mk1; refine (HN.out _ B1).mono ?_; rintro e w2 ⟨rfl, b2⟩; rw [hn]; have M2 := M1.step b2; have B2 := B1.trans (b2.mono B1.size); clear m0 m1 m2 m3 m4 m5 m6 m7 m8 m9 m10 m11 m12; obtain ⟨m0, m1, m2, m3, m4, m5, m6, m7, m8, m9, m10, m11, m12⟩ := M2.c13; clear M1))
      go_ret
      exact ⟨rfl, B2⟩
    | true =>
      cases he : x.rp.toList.isEmpty with
      | true =>
        cases ht1 : tkB x.ti with
        | false =>
          go_enter Tryd.func7, Tryd.ntmps7
          go_wp2_with (first | (go_at_call 22; refine (HV.out _ B0).mono ?_; rintro e w1 ⟨rfl, b1⟩; rw [hv]; have M1 := M0.step b1; have B1 := B0.trans (b1.mono B0.size); obtain ⟨m0, m1, m2, m3, m4, m5, m6, m7, m8, m9, m10, m11, m12⟩ := M1.c13; clear M0) | (go_at_call 23; have mk1' := mk1; clear mk1; refine (HN.out _ B1).mono ?_; rintro e w2 ⟨rfl, b2⟩; rw [hn]; have M2 := M1.step b2; have B2 := B1.trans (b2.mono B1.size); clear m0 m1 m2 m3 m4 m5 m6 m7 m8 m9 m10 m11 m12; obtain ⟨m0, m1, m2, m3, m4, m5, m6, m7, m8, m9, m10, m11, m12⟩ := M2.c13; clear M1) | (go_at_call 24; refine (tick_any _ _).mono ?_; rintro e wt ⟨rfl, rfl⟩; first | rw [ht1]))
          go_ret
          exact ⟨rfl, B2⟩
        | true =>
          cases ht2 : tkB x.un with
          | false =>
            go_enter Tryd.func7, Tryd.ntmps7
            go_wp2_with (first | (go_at_call 22; refine (HV.out _ B0).mono ?_; rintro e w1 ⟨rfl, b1⟩; rw [hv]; have M1 := M0.step b1; have B1 := B0.trans (b1.mono B0.size); obtain ⟨m0, m1, m2, m3, m4, m5, m6, m7, m8, m9, m10, m11, m12⟩ := M1.c13; clear M0) | (go_at_call 23; have mk1' := mk1; clear mk1; refine (HN.out _ B1).mono ?_; rintro e w2 ⟨rfl, b2⟩; rw [hn]; have M2 := M1.step b2; have B2 := B1.trans (b2.mono B1.size); clear m0 m1 m2 m3 m4 m5 m6 m7 m8 m9 m10 m11 m12; obtain ⟨m0, m1, m2, m3, m4, m5, m6, m7, m8, m9, m10, m11, m12⟩ := M2.c13; clear M1) | (go_at_call 24; refine (tick_any _ _).mono ?_; rintro e wt ⟨rfl, rfl⟩; first | rw [ht1] | rw [ht2]))
            go_ret
            exact ⟨rfl, B2⟩
          | true =>
            by_cases h1 : 0 ≤ x.ho
            · by_cases h2 : x.ho ≤ 8
              · have e1 : (decide (0 ≤ x.ho) && decide (x.ho ≤ 8)) = true := by simp [h1, h2]
                rw [e1]
                go_enter Tryd.func7, Tryd.ntmps7
                go_wp2_with (first | (go_at_call 22; refine (HV.out _ B0).mono ?_; rintro e w1 ⟨rfl, b1⟩; rw [hv]; have M1 := M0.step b1; have B1 := B0.trans (b1.mono B0.size); obtain ⟨m0, m1, m2, m3, m4, m5, m6, m7, m8, m9, m10, m11, m12⟩ := M1.c13; clear M0) | (go_at_call 23; have mk1' := mk1; clear mk1; refine (HN.out _ B1).mono ?_; rintro e w2 ⟨rfl, b2⟩; rw [hn]; have M2 := M1.step b2; have B2 := B1.trans (b2.mono B1.size); clear m0 m1 m2 m3 m4 m5 m6 m7 m8 m9 m10 m11 m12; obtain ⟨m0, m1, m2, m3, m4, m5, m6, m7, m8, m9, m10, m11, m12⟩ := M2.c13; clear M1) | (go_at_call 24; refine (tick_any _ _).mono ?_; rintro e wt ⟨rfl, rfl⟩; first | rw [ht1] | rw [ht2]))
                go_ret
                exact ⟨rfl, B2⟩
              · have e1 : (decide (0 ≤ x.ho) && decide (x.ho ≤ 8)) = false := by simp [h2]
                have e2 : decide (x.ho ≤ 8) = false := by simpa using h2
                rw [e1]
                go_enter Tryd.func7, Tryd.ntmps7
                go_wp2_with (first | (go_at_call 22; refine (HV.out _ B0).mono ?_; rintro e w1 ⟨rfl, b1⟩; rw [hv]; have M1 := M0.step b1; have B1 := B0.trans (b1.mono B0.size); obtain ⟨m0, m1, m2, m3, m4, m5, m6, m7, m8, m9, m10, m11, m12⟩ := M1.c13; clear M0) | (go_at_call 23; have mk1' := mk1; clear mk1; refine (HN.out _ B1).mono ?_; rintro e w2 ⟨rfl, b2⟩; rw [hn]; have M2 := M1.step b2; have B2 := B1.trans (b2.mono B1.size); clear m0 m1 m2 m3 m4 m5 m6 m7 m8 m9 m10 m11 m12; obtain ⟨m0, m1, m2, m3, m4, m5, m6, m7, m8, m9, m10, m11, m12⟩ := M2.c13; clear M1) | (go_at_call 24; refine (tick_any _ _).mono ?_; rintro e wt ⟨rfl, rfl⟩; first | rw [ht1] | rw [ht2]))
                go_ret
                exact ⟨rfl, B2⟩
            · have e1 : (decide (0 ≤ x.ho) && decide (x.ho ≤ 8)) = false := by simp [h1]
              rw [e1]
              go_enter Tryd.func7, Tryd.ntmps7
              go_wp2_with (first | (go_at_call 22; refine (HV.out _ B0).mono ?_; rintro e w1 ⟨rfl, b1⟩; rw [hv]; have M1 := M0.step b1; have B1 := B0.trans (b1.mono B0.size); obtain ⟨m0, m1, m2, m3, m4, m5, m6, m7, m8, m9, m10, m11, m12⟩ := M1.c13; clear M0) | (go_at_call 23; have mk1' := mk1; clear mk1; refine (HN.out _ B1).mono ?_; rintro e w2 ⟨rfl, b2⟩; rw [hn]; have M2 := M1.step b2; have B2 := B1.trans (b2.mono B1.size); clear m0 m1 m2 m3 m4 m5 m6 m7 m8 m9 m10 m11 m12; obtain ⟨m0, m1, m2, m3, m4, m5, m6, m7, m8, m9, m10, m11, m12⟩ := M2.c13; clear M1) | (go_at_call 24; refine (tick_any _ _).mono ?_; rintro e wt ⟨rfl, rfl⟩; first | rw [ht1] | rw [ht2]))
              go_ret
              exact ⟨rfl, B2⟩
      | false =>
        cases hr : isName (tl x.rp) with
        | false =>
          go_enter Tryd.func7, Tryd.ntmps7
          go_wp2_with (first | (go_at_call 22; refine (HV.out _ B0).mono ?_; rintro e w1 ⟨rfl, b1⟩; rw [hv]; have M1 := M0.step b1; have B1 := B0.trans (b1.mono B0.size); obtain ⟨m0, m1, m2, m3, m4, m5, m6, m7, m8, m9, m10, m11, m12⟩ := M1.c13; clear M0) | (go_at_call 23; have mk1' := mk1; clear mk1; refine (HN.out _ B1).mono ?_; rintro e w2 ⟨rfl, b2⟩; rw [hn]; have M2 := M1.step b2; have B2 := B1.trans (b2.mono B1.size); clear m0 m1 m2 m3 m4 m5 m6 m7 m8 m9 m10 m11 m12; obtain ⟨m0, m1, m2, m3, m4, m5, m6, m7, m8, m9, m10, m11, m12⟩ := M2.c13; clear M1) | (go_at_call 23; refine (HR.out _ B2).mono ?_; rintro e w3 ⟨rfl, b3⟩; rw [hr]; have M3 := M2.step b3; have B3 := B2.trans (b3.mono B2.size); clear m0 m1 m2 m3 m4 m5 m6 m7 m8 m9 m10 m11 m12; obtain ⟨m0, m1, m2, m3, m4, m5, m6, m7, m8, m9, m10, m11, m12⟩ := M3.c13; clear M2))
          go_ret
          exact ⟨rfl, B3⟩
        | true =>
          cases ht1 : tkB x.ti with
          | false =>
            go_enter Tryd.func7, Tryd.ntmps7
            go_wp2_with (first | (go_at_call 22; refine (HV.out _ B0).mono ?_; rintro e w1 ⟨rfl, b1⟩; rw [hv]; have M1 := M0.step b1; have B1 := B0.trans (b1.mono B0.size); obtain ⟨m0, m1, m2, m3, m4, m5, m6, m7, m8, m9, m10, m11, m12⟩ := M1.c13; clear M0) | (go_at_call 23; have mk1' := mk1; clear mk1; refine (HN.out _ B1).mono ?_; rintro e w2 ⟨rfl, b2⟩; rw [hn]; have M2 := M1.step b2; have B2 := B1.trans (b2.mono B1.size); clear m0 m1 m2 m3 m4 m5 m6 m7 m8 m9 m10 m11 m12; obtain ⟨m0, m1, m2, m3, m4, m5, m6, m7, m8, m9, m10, m11, m12⟩ := M2.c13; clear M1) | (go_at_call 23; refine (HR.out _ B2).mono ?_; rintro e w3 ⟨rfl, b3⟩; rw [hr]; have M3 := M2.step b3; have B3 := B2.trans (b3.mono B2.size); clear m0 m1 m2 m3 m4 m5 m6 m7 m8 m9 m10 m11 m12; obtain ⟨m0, m1, m2, m3, m4, m5, m6, m7, m8, m9, m10, m11, m12⟩ := M3.c13; clear M2) | (go_at_call 24; refine (tick_any _ _).mono ?_; rintro e wt ⟨rfl, rfl⟩; first | rw [ht1]))
            go_ret
            exact ⟨rfl, B3⟩
          | true =>
            cases ht2 : tkB x.un with
            | false =>
              go_enter Tryd.func7, Tryd.ntmps7
              go_wp2_with (first | (go_at_call 22; refine (HV.out _ B0).mono ?_; rintro e w1 ⟨rfl, b1⟩; rw [hv]; have M1 := M0.step b1; have B1 := B0.trans (b1.mono B0.size); obtain ⟨m0, m1, m2, m3, m4, m5, m6, m7, m8, m9, m10, m11, m12⟩ := M1.c13; clear M0) | (go_at_call 23; have mk1' := mk1; clear mk1; refine (HN.out _ B1).mono ?_; rintro e w2 ⟨rfl, b2⟩; rw [hn]; have M2 := M1.step b2; have B2 := B1.trans (b2.mono B1.size); clear m0 m1 m2 m3 m4 m5 m6 m7 m8 m9 m10 m11 m12; obtain ⟨m0, m1, m2, m3, m4, m5, m6, m7, m8, m9, m10, m11, m12⟩ := M2.c13; clear M1) | (go_at_call 23; refine (HR.out _ B2).mono ?_; rintro e w3 ⟨rfl, b3⟩; rw [hr]; have M3 := M2.step b3; have B3 := B2.trans (b3.mono B2.size); clear m0 m1 m2 m3 m4 m5 m6 m7 m8 m9 m10 m11 m12; obtain ⟨m0, m1, m2, m3, m4, m5, m6, m7, m8, m9, m10, m11, m12⟩ := M3.c13; clear M2) | (go_at_call 24; refine (tick_any _ _).mono ?_; rintro e wt ⟨rfl, rfl⟩; first | rw [ht1] | rw [ht2]))
              go_ret
              exact ⟨rfl, B3⟩
            | true =>
              by_cases h1 : 0 ≤ x.ho
              · by_cases h2 : x.ho ≤ 8
                · have e1 : (decide (0 ≤ x.ho) && decide (x.ho ≤ 8)) = true := by simp [h1, h2]
                  rw [e1]
                  go_enter Tryd.func7, Tryd.ntmps7
                  go_wp2_with (first | (go_at_call 22; refine (HV.out _ B0).mono ?_; rintro e w1 ⟨rfl, b1⟩; rw [hv]; have M1 := M0.step b1; have B1 := B0.trans (b1.mono B0.size); obtain ⟨m0, m1, m2, m3, m4, m5, m6, m7, m8, m9, m10, m11, m12⟩ := M1.c13; clear M0) | (go_at_call 23; have mk1' := mk1; clear mk1; refine (HN.out _ B1).mono ?_; rintro e w2 ⟨rfl, b2⟩; rw [hn]; have M2 := M1.step b2; have B2 := B1.trans (b2.mono B1.size); clear m0 m1 m2 m3 m4 m5 m6 m7 m8 m9 m10 m11 m12; obtain ⟨m0, m1, m2, m3, m4, m5, m6, m7, m8, m9, m10, m11, m12⟩ := M2.c13; clear M1) | (go_at_call 23; refine (HR.out _ B2).mono ?_; rintro e w3 ⟨rfl, b3⟩; rw [hr]; have M3 := M2.step b3; have B3 := B2.trans (b3.mono B2.size); clear m0 m1 m2 m3 m4 m5 m6 m7 m8 m9 m10 m11 m12; obtain ⟨m0, m1, m2, m3, m4, m5, m6, m7, m8, m9, m10, m11, m12⟩ := M3.c13; clear M2) | (go_at_call 24; refine (tick_any _ _).mono ?_; rintro e wt ⟨rfl, rfl⟩; first | rw [ht1] | rw [ht2]))
                  go_ret
                  exact ⟨rfl, B3⟩
                · have e1 : (decide (0 ≤ x.ho) && decide (x.ho ≤ 8)) = false := by simp [h2]
                  have e2 : decide (x.ho ≤ 8) = false := by simpa using h2
                  rw [e1]
                  go_enter Tryd.func7, Tryd.ntmps7
                  go_wp2_with (first | (go_at_call 22; refine (HV.out _ B0).mono ?_; rintro e w1 ⟨rfl, b1⟩; rw [hv]; have M1 := M0.step b1; have B1 := B0.trans (b1.mono B0.size); obtain ⟨m0, m1, m2, m3, m4, m5, m6, m7, m8, m9, m10, m11, m12⟩ := M1.c13; clear M0) | (go_at_call 23; have mk1' := mk1; clear mk1; refine (HN.out _ B1).mono ?_; rintro e w2 ⟨rfl, b2⟩; rw [hn]; have M2 := M1.step b2; have B2 := B1.trans (b2.mono B1.size); clear m0 m1 m2 m3 m4 m5 m6 m7 m8 m9 m10 m11 m12; obtain ⟨m0, m1, m2, m3, m4, m5, m6, m7, m8, m9, m10, m11, m12⟩ := M2.c13; clear M1) | (go_at_call 23; refine (HR.out _ B2).mono ?_; rintro e w3 ⟨rfl, b3⟩; rw [hr]; have M3 := M2.step b3; have B3 := B2.trans (b3.mono B2.size); clear m0 m1 m2 m3 m4 m5 m6 m7 m8 m9 m10 m11 m12; obtain ⟨m0, m1, m2, m3, m4, m5, m6, m7, m8, m9, m10, m11, m12⟩ := M3.c13; clear M2) | (go_at_call 24; refine (tick_any _ _).mono ?_; rintro e wt ⟨rfl, rfl⟩; first | rw [ht1] | rw [ht2]))
                  go_ret
                  exact ⟨rfl, B3⟩
              · have e1 : (decide (0 ≤ x.ho) && decide (x.ho ≤ 8)) = false := by simp [h1]
                rw [e1]
                go_enter Tryd.func7, Tryd.ntmps7
                go_wp2_with (first | (go_at_call 22; refine (HV.out _ B0).mono ?_; rintro e w1 ⟨rfl, b1⟩; rw [hv]; have M1 := M0.step b1; have B1 := B0.trans (b1.mono B0.size); obtain ⟨m0, m1, m2, m3, m4, m5, m6, m7, m8, m9, m10, m11, m12⟩ := M1.c13; clear M0) | (go_at_call 23; have mk1' := mk1; clear mk1; refine (HN.out _ B1).mono ?_; rintro e w2 ⟨rfl, b2⟩; rw [hn]; have M2 := M1.step b2; have B2 := B1.trans (b2.mono B1.size); clear m0 m1 m2 m3 m4 m5 m6 m7 m8 m9 m10 m11 m12; obtain ⟨m0, m1, m2, m3, m4, m5, m6, m7, m8, m9, m10, m11, m12⟩ := M2.c13; clear M1) | (go_at_call 23; refine (HR.out _ B2).mono ?_; rintro e w3 ⟨rfl, b3⟩; rw [hr]; have M3 := M2.step b3; have B3 := B2.trans (b3.mono B2.size); clear m0 m1 m2 m3 m4 m5 m6 m7 m8 m9 m10 m11 m12; obtain ⟨m0, m1, m2, m3, m4, m5, m6, m7, m8, m9, m10, m11, m12⟩ := M3.c13; clear M2) | (go_at_call 24; refine (tick_any _ _).mono ?_; rintro e wt ⟨rfl, rfl⟩; first | rw [ht1] | rw [ht2]))
                go_ret
                exact ⟨rfl, B3⟩
end Go.Proofs.YtikkedemhcdboaaDoor
