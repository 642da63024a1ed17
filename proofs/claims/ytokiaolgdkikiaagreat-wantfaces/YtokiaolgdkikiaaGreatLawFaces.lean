/- The law WantFaces at any two numbers: true, in new memory alone; no condition. -/
import Derived.Test.YtokiaolgdkikiaaGreatAwk
namespace Go.Proofs.YtokiaolgdkikiaaGreat
open Go.RowKit

set_option maxRecDepth 100000 in
set_option maxHeartbeats 2000000 in
theorem law_faces (k f : Int) (w : World) :
    Calls Tryz.prog 7 #[.int .i64 k, .int .i64 f] w fun e w' => e = .returned (.bool true) ∧ Below w.heap.size w w' := by
  have HM := Lib.hid (methods_any f)
  have HN := Lib.hid (refMethods_any f)
  have hbd := (mths_bd f).1
  generalize mths f = l at HM HN hbd
  have HI := Lib.hid (implements_any k f)
  have HJ := Lib.hid (refImpl_any k f)
  generalize impl k f = V at HI HJ
  have HX := Lib.hid (missing_any k f)
  have HY := Lib.hid (lacks_any k f)
  generalize lacks k f = L at HX HY
  go_enter Tryz.func7, Tryz.ntmps7
  go_wp2_with fail
  refine (HM.out _).mono ?_
  rintro e w1 ⟨v, rfl, ir1, b1⟩
  go_wp2_with fail
  refine (HN.out _).mono ?_
  rintro e w2 ⟨v2, rfl, ir2, b2⟩
  have ir1' := ir1.below b2
  have B2 := b1.trans (b2.mono b1.size)
  obtain ⟨ad, cap, rfl, hc, hm, hr⟩ := ir1'
  obtain ⟨ad', cap', rfl, hc', hm', hr'⟩ := ir2
  have HK := Lib.hid hr
  have HK' := Lib.hid hr'
  clear hr hr' HM HN ir1 b1 b2
  unfold maxLen at hm hm'
  go_wp2_with fail
  go_loopw [7] (fun si wr => ∃ (j : Nat), si = .int .i64 j ∧ j ≤ l.length ∧ Below w2.heap.size w2 wr) (fun si _ => l.length - (intOf si).toNat)
  case atStart => exact ⟨0, rfl, Nat.zero_le _, Below.refl _ _⟩
  case round =>
    obtain ⟨j, rfl, hj, hb⟩ := hrel
    by_cases hlt : j < l.length
    · have hne : l ≠ [] := by intro e; rw [e] at hlt; exact absurd hlt (Nat.not_lt_zero _)
      rcases HK.out with hk | ⟨g, hk1, hk2⟩
      · exact absurd hk hne
      rcases HK'.out with hk' | ⟨g', hk1', hk2'⟩
      · exact absurd hk' hne
      subst hk1 hk1'
      have y0 := hk2 j _ (List.getElem?_eq_getElem hlt)
      have y1 := hk2' j _ (List.getElem?_eq_getElem hlt)
      have x0 := (hb.cell (p := ⟨g, j, none⟩) (World.block_lt_of_cell? w2 _ y0)).trans y0
      have x1 := (hb.cell (p := ⟨g', j, none⟩) (World.block_lt_of_cell? w2 _ y1)).trans y1
      clear hk2 hk2' y0 y1
      generalize l[j] = m at x0 x1
      have j0 : (0 : Int) ≤ (j : Int) := by omega
      have j1 : (j : Int) < (l.length : Int) := by omega
      go_wp2_with fail
      go_region_held3 (fun w' => w'.cell? ⟨g, j, none⟩ = some (.int .i64 m) ∧ w'.cell? ⟨g', j, none⟩ = some (.int .i64 m)) (go_keep) (fail)
      all_goals go_wp2
      all_goals exact ⟨⟨j + 1, by go_num, by omega, by first | assumption | exact Below.drew (by assumption)⟩, by simp [intOf]; omega⟩
    · have hje : j = l.length := by omega
      have B3 := B2.trans (hb.mono B2.size)
      clear hb B2 HK HK'
      go_wp2_with fail
      refine (HI.out _).mono ?_
      rintro e w3 ⟨rfl, b3⟩
      have B4 := B3.trans (b3.mono B3.size)
      clear b3 B3
      go_wp2_with fail
      refine (HJ.out _).mono ?_
      rintro e w4 ⟨rfl, b4⟩
      have B5 := B4.trans (b4.mono B4.size)
      clear b4 B4
      cases V
      all_goals
        go_wp2_with fail
        refine (HX.out _).mono ?_
        rintro e w5 ⟨rfl, b5⟩
        have B6 := B5.trans (b5.mono B5.size)
        clear b5 B5
        go_wp2_with fail
        refine (HY.out _).mono ?_
        rintro e w6 ⟨rfl, b6⟩
        have B7 := B6.trans (b6.mono B6.size)
        clear b6 B6
        go_wp2_with fail
        refine (awake_any _).mono ?_
        rintro e w7 ⟨rfl, b7⟩
        have B8 := B7.trans (b7.mono B7.size)
        go_wp2
        go_ret
        exact ⟨rfl, B8⟩
end Go.Proofs.YtokiaolgdkikiaaGreat
