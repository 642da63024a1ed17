/- The law WantCovers over two patterns' trees: true, in new memory alone; the condition: the trees in memory. -/
import Derived.Test.YtokiaolgdkikiaaGreatAwk
import Derived.Test.YtokiaolgdkikiaaGreatPubR
namespace Go.Proofs.YtokiaolgdkikiaaGreat
open Go.RowKit

set_option maxRecDepth 100000 in
set_option maxHeartbeats 2000000 in
theorem law_covers (n : Nat) (t : Wt n) (v0 v1 v2 : Value) (m : Nat) (r : Wt m) (x0 x1 x2 : Value) (w : World) (h : RepW w n [v0, v1, v2] t) (h' : RepW w m [x0, x1, x2] r) :
    Calls Tryz.prog 5 #[.agg #[v0, v1, v2], .agg #[x0, x1, x2]] w fun e w' => e = .returned (.bool true) ∧ Below w.heap.size w w' := by
  obtain ⟨o, a, wd, wl, wc, rfl, rfl, rfl⟩ := repW_shape h
  obtain ⟨o', a', wd', wl', wc', rfl, rfl, rfl⟩ := repW_shape h'
  have hb0 := Tw.start w (.int .i64 o) (.int .i64 a) (.slice wd wl wc) (.int .i64 o') (.int .i64 a') (.slice wd' wl' wc')
  have HF : Hid (∀ wx, Tw w (.int .i64 o) (.int .i64 a) (.slice wd wl wc) (.int .i64 o') (.int .i64 a') (.slice wd' wl' wc') wx → Calls Tryz.prog 10 #[.agg #[.int .i64 o, .int .i64 a, .slice wd wl wc]] wx fun e w' => e = .returned (.bool (fitW n t)) ∧ Tw w (.int .i64 o) (.int .i64 a) (.slice wd wl wc) (.int .i64 o') (.int .i64 a') (.slice wd' wl' wc') w') := fun wx hx => (fit_any n t _ _ _ wx (RepW.below hx.below n _ _ h)).mono fun e w' ⟨a, b⟩ => ⟨a, hx.step b⟩
  have HG : Hid (∀ wx, Tw w (.int .i64 o) (.int .i64 a) (.slice wd wl wc) (.int .i64 o') (.int .i64 a') (.slice wd' wl' wc') wx → Calls Tryz.prog 10 #[.agg #[.int .i64 o', .int .i64 a', .slice wd' wl' wc']] wx fun e w' => e = .returned (.bool (fitW m r)) ∧ Tw w (.int .i64 o) (.int .i64 a) (.slice wd wl wc) (.int .i64 o') (.int .i64 a') (.slice wd' wl' wc') w') := fun wx hx => (fit_any m r _ _ _ wx (RepW.below hx.below m _ _ h')).mono fun e w' ⟨a, b⟩ => ⟨a, hx.step b⟩
  have HA : Hid (∀ wx, Tw w (.int .i64 o) (.int .i64 a) (.slice wd wl wc) (.int .i64 o') (.int .i64 a') (.slice wd' wl' wc') wx → Calls Tryz.prog 11 #[] wx fun e w' => e = .returned (.bool true) ∧ Tw w (.int .i64 o) (.int .i64 a) (.slice wd wl wc) (.int .i64 o') (.int .i64 a') (.slice wd' wl' wc') w') := fun wx hx => (awake_any wx).mono fun e w' ⟨a, b⟩ => ⟨a, hx.step b⟩
  have HS : Hid (∀ wx, Tw w (.int .i64 o) (.int .i64 a) (.slice wd wl wc) (.int .i64 o') (.int .i64 a') (.slice wd' wl' wc') wx → (wx.cell? ⟨w.heap.size, 0, none⟩ = some (.int .i64 o) ∧ wx.cell? ⟨w.heap.size, 1, none⟩ = some (.int .i64 a) ∧ wx.cell? ⟨w.heap.size, 2, none⟩ = some (.slice wd wl wc)) ∧ wx.cell? ⟨w.heap.size + 1, 0, none⟩ = some (.int .i64 o') ∧ wx.cell? ⟨w.heap.size + 1, 1, none⟩ = some (.int .i64 a') ∧ wx.cell? ⟨w.heap.size + 1, 2, none⟩ = some (.slice wd' wl' wc')) := fun wx h => h.c
  cases hV : fitW n t with
  | false =>
    rw [hV] at HF
    clear hV h h' HG
    obtain ⟨⟨c0, c1, c2⟩, d0, d1, d2⟩ := HS.out _ hb0
    go_enter Tryz.func5, Tryz.ntmps5
    go_wp2_with fail
    refine (HF.out _ hb0).mono ?_
    rintro e w1 ⟨rfl, b1⟩
    clear c0 c1 c2 d0 d1 d2
    go_wp2_with fail
    refine (HA.out _ b1).mono ?_
    rintro e w2 ⟨rfl, b2⟩
    go_wp2
    go_ret
    exact ⟨rfl, b2.below⟩
  | true =>
    rw [hV] at HF
    have ga := fitW_right n t hV
    clear hV
    cases hU : fitW m r with
    | false =>
      rw [hU] at HG
      clear hU h h'
      obtain ⟨⟨c0, c1, c2⟩, d0, d1, d2⟩ := HS.out _ hb0
      go_enter Tryz.func5, Tryz.ntmps5
      go_wp2_with fail
      refine (HF.out _ hb0).mono ?_
      rintro e w1 ⟨rfl, b1⟩
      clear c0 c1 c2 d0 d1 d2
      obtain ⟨⟨c0, c1, c2⟩, d0, d1, d2⟩ := HS.out _ b1
      go_wp2_with fail
      refine (HG.out _ b1).mono ?_
      rintro e w2 ⟨rfl, b2⟩
      clear c0 c1 c2 d0 d1 d2
      go_wp2_with fail
      refine (HA.out _ b2).mono ?_
      rintro e w3 ⟨rfl, b3⟩
      go_wp2
      go_ret
      exact ⟨rfl, b3.below⟩
    | true =>
      rw [hU] at HG
      have gb := fitW_right m r hU
      clear hU
      have KA : Hid (∀ wx, Tw w (.int .i64 o) (.int .i64 a) (.slice wd wl wc) (.int .i64 o') (.int .i64 a') (.slice wd' wl' wc') wx → Calls Tryz.prog 13 #[.agg #[.int .i64 o, .int .i64 a, .slice wd wl wc]] wx fun e w' => e = .returned (.int .u32 ((kset (evk n t) 14 : Nat) : Int)) ∧ Tw w (.int .i64 o) (.int .i64 a) (.slice wd wl wc) (.int .i64 o') (.int .i64 a') (.slice wd' wl' wc') w') := fun wx hx => (kinds_any n t _ _ _ wx (RepW.below hx.below n _ _ h) ga).mono fun e w' ⟨a, b⟩ => ⟨a, hx.step b⟩
      have KB : Hid (∀ wx, Tw w (.int .i64 o) (.int .i64 a) (.slice wd wl wc) (.int .i64 o') (.int .i64 a') (.slice wd' wl' wc') wx → Calls Tryz.prog 13 #[.agg #[.int .i64 o', .int .i64 a', .slice wd' wl' wc']] wx fun e w' => e = .returned (.int .u32 ((kset (evk m r) 14 : Nat) : Int)) ∧ Tw w (.int .i64 o) (.int .i64 a) (.slice wd wl wc) (.int .i64 o') (.int .i64 a') (.slice wd' wl' wc') w') := fun wx hx => (kinds_any m r _ _ _ wx (RepW.below hx.below m _ _ h') gb).mono fun e w' ⟨a, b⟩ => ⟨a, hx.step b⟩
      have HC : Hid (∀ wx, Tw w (.int .i64 o) (.int .i64 a) (.slice wd wl wc) (.int .i64 o') (.int .i64 a') (.slice wd' wl' wc') wx → Calls Tryz.prog 17 #[.agg #[.int .i64 o, .int .i64 a, .slice wd wl wc], .agg #[.int .i64 o', .int .i64 a', .slice wd' wl' wc']] wx fun e w' => e = .returned (.bool (covB (evk n t) (evk m r))) ∧ Tw w (.int .i64 o) (.int .i64 a) (.slice wd wl wc) (.int .i64 o') (.int .i64 a') (.slice wd' wl' wc') w') := fun wx hx => (coversP n m t r _ _ _ _ _ _ wx (RepW.below hx.below n _ _ h) (RepW.below hx.below m _ _ h') ga gb).mono fun e w' ⟨a, b⟩ => ⟨a, hx.step b⟩
      have HM : Hid (∀ wx, Tw w (.int .i64 o) (.int .i64 a) (.slice wd wl wc) (.int .i64 o') (.int .i64 a') (.slice wd' wl' wc') wx → Calls Tryz.prog 19 #[.agg #[.int .i64 o, .int .i64 a, .slice wd wl wc], .agg #[.int .i64 o', .int .i64 a', .slice wd' wl' wc']] wx fun e w' => e = .returned (.bool (meeB (evk n t) (evk m r))) ∧ Tw w (.int .i64 o) (.int .i64 a) (.slice wd wl wc) (.int .i64 o') (.int .i64 a') (.slice wd' wl' wc') w') := fun wx hx => (meetsP n m t r _ _ _ _ _ _ wx (RepW.below hx.below n _ _ h) (RepW.below hx.below m _ _ h') ga gb).mono fun e w' ⟨a, b⟩ => ⟨a, hx.step b⟩
      have RC : Hid (∀ wx, Tw w (.int .i64 o) (.int .i64 a) (.slice wd wl wc) (.int .i64 o') (.int .i64 a') (.slice wd' wl' wc') wx → Calls Tryz.prog 18 #[.agg #[.int .i64 o, .int .i64 a, .slice wd wl wc], .agg #[.int .i64 o', .int .i64 a', .slice wd' wl' wc']] wx fun e w' => e = .returned (.bool (covB (evk n t) (evk m r))) ∧ Tw w (.int .i64 o) (.int .i64 a) (.slice wd wl wc) (.int .i64 o') (.int .i64 a') (.slice wd' wl' wc') w') := fun wx hx => (coversR n m t r _ _ _ _ _ _ wx (RepW.below hx.below n _ _ h) (RepW.below hx.below m _ _ h') ga gb).mono fun e w' ⟨a, b⟩ => ⟨a, hx.step b⟩
      have RM : Hid (∀ wx, Tw w (.int .i64 o) (.int .i64 a) (.slice wd wl wc) (.int .i64 o') (.int .i64 a') (.slice wd' wl' wc') wx → Calls Tryz.prog 20 #[.agg #[.int .i64 o, .int .i64 a, .slice wd wl wc], .agg #[.int .i64 o', .int .i64 a', .slice wd' wl' wc']] wx fun e w' => e = .returned (.bool (meeB (evk n t) (evk m r))) ∧ Tw w (.int .i64 o) (.int .i64 a) (.slice wd wl wc) (.int .i64 o') (.int .i64 a') (.slice wd' wl' wc') w') := fun wx hx => (meetsR n m t r _ _ _ _ _ _ wx (RepW.below hx.below n _ _ h) (RepW.below hx.below m _ _ h') ga gb).mono fun e w' ⟨a, b⟩ => ⟨a, hx.step b⟩
      have ho := off_bits (evk n t) (evk m r)
      have hm := both_bits (evk n t) (evk m r)
      unfold covB at HC RC
      unfold meeB at HM RM
      generalize offN (evk n t) (evk m r) = Z at HC RC ho
      generalize bothN (evk n t) (evk m r) = Z' at HM RM hm
      generalize kset (evk n t) 14 = X at KA ho hm
      generalize kset (evk m r) 14 = Y at KB ho hm
      rw [← natz] at HC RC
      rw [← natn] at HM RM
      obtain ⟨⟨c0, c1, c2⟩, d0, d1, d2⟩ := HS.out _ hb0
      clear ga gb h h'
      cases hz : ((Z : Int) == 0)
      all_goals rw [hz] at HC RC
      all_goals cases hz' : ((Z' : Int) != 0)
      all_goals
        rw [hz'] at HM RM
        go_enter Tryz.func5, Tryz.ntmps5
        go_wp2_with fail
        refine (HF.out _ hb0).mono ?_
        rintro e w1 ⟨rfl, b1⟩
        clear c0 c1 c2 d0 d1 d2 hb0
        obtain ⟨⟨c0, c1, c2⟩, d0, d1, d2⟩ := HS.out _ b1
        go_wp2_with fail
        refine (HG.out _ b1).mono ?_
        rintro e w2 ⟨rfl, b2⟩
        clear c0 c1 c2 d0 d1 d2 b1
        obtain ⟨⟨c0, c1, c2⟩, d0, d1, d2⟩ := HS.out _ b2
        go_wp2_with fail
        refine (KA.out _ b2).mono ?_
        rintro e w3 ⟨rfl, b3⟩
        clear c0 c1 c2 d0 d1 d2 b2
        obtain ⟨⟨c0, c1, c2⟩, d0, d1, d2⟩ := HS.out _ b3
        go_wp2_with fail
        refine (KB.out _ b3).mono ?_
        rintro e w4 ⟨rfl, b4⟩
        clear c0 c1 c2 d0 d1 d2 b3 HF HG KA KB
        go_wp2_with fail
        go_region_held3 (fun wx => (wx.cell? ⟨w.heap.size, 0, none⟩ = some (.int .i64 o) ∧ wx.cell? ⟨w.heap.size, 1, none⟩ = some (.int .i64 a) ∧ wx.cell? ⟨w.heap.size, 2, none⟩ = some (.slice wd wl wc)) ∧ wx.cell? ⟨w.heap.size + 1, 0, none⟩ = some (.int .i64 o') ∧ wx.cell? ⟨w.heap.size + 1, 1, none⟩ = some (.int .i64 a') ∧ wx.cell? ⟨w.heap.size + 1, 2, none⟩ = some (.slice wd' wl' wc')) (exact HS.out _ (by first | assumption | exact Tw.drew (by assumption))) (first | (go_at_call 17; refine (HC.out _ (by first | assumption | exact Tw.drew (by assumption))).mono ?_; rintro e wa ⟨rfl, ba⟩) | (go_at_call 18; refine (RC.out _ (by first | assumption | exact Tw.drew (by assumption))).mono ?_; rintro e wa ⟨rfl, ba⟩) | (go_at_call 19; refine (HM.out _ (by first | assumption | exact Tw.drew (by assumption))).mono ?_; rintro e wa ⟨rfl, ba⟩) | (go_at_call 20; refine (RM.out _ (by first | assumption | exact Tw.drew (by assumption))).mono ?_; rintro e wa ⟨rfl, ba⟩) | (go_at_call 11; refine (HA.out _ (by first | assumption | exact Tw.drew (by assumption))).mono ?_; rintro e wa ⟨rfl, ba⟩))
        all_goals go_wp2
        all_goals go_ret
        all_goals exact ⟨rfl, Tw.below (by first | assumption | exact Tw.drew (by assumption))⟩
end Go.Proofs.YtokiaolgdkikiaaGreat
