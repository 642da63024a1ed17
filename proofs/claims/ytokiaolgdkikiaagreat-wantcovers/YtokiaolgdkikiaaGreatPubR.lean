/- The document's Covers and Meets at right patterns; the conditions: the patterns' trees lie in memory and are right. -/
import Derived.Test.YtokiaolgdkikiaaGreatPub
import Derived.Test.YtokiaolgdkikiaaGreatRk
namespace Go.Proofs.YtokiaolgdkikiaaGreat
open Go.RowKit

set_option maxRecDepth 100000 in
set_option maxHeartbeats 2000000 in
theorem coversR (n m : Nat) (t : Wt n) (r : Wt m) (v0 v1 v2 x0 x1 x2 : Value) (w : World) (hr : RepW w n [v0, v1, v2] t) (hx : RepW w m [x0, x1, x2] r) (hg : wgt n t = true) (hg' : wgt m r = true) :
    Calls Tryz.prog 18 #[.agg #[v0, v1, v2], .agg #[x0, x1, x2]] w fun e w' => e = .returned (.bool (covB (evk n t) (evk m r))) ∧ Below w.heap.size w w' := by
  obtain ⟨o, a, wd, wl, wc, rfl, rfl, rfl⟩ := repW_shape hr
  obtain ⟨o', a', wd', wl', wc', rfl, rfl, rfl⟩ := repW_shape hx
  have KA : Hid (∀ wx, Tw w (.int .i64 o) (.int .i64 a) (.slice wd wl wc) (.int .i64 o') (.int .i64 a') (.slice wd' wl' wc') wx → Calls Tryz.prog 16 #[.agg #[.int .i64 o, .int .i64 a, .slice wd wl wc]] wx fun e w' => e = .returned (.int .u32 ((kset (evk n t) 14 : Nat) : Int)) ∧ Tw w (.int .i64 o) (.int .i64 a) (.slice wd wl wc) (.int .i64 o') (.int .i64 a') (.slice wd' wl' wc') w') := fun wx h => (refKinds_any n t _ _ _ wx (RepW.below h.below n _ _ hr) hg).mono fun e w' ⟨a, b⟩ => ⟨a, h.step b⟩
  have KB : Hid (∀ wx, Tw w (.int .i64 o) (.int .i64 a) (.slice wd wl wc) (.int .i64 o') (.int .i64 a') (.slice wd' wl' wc') wx → Calls Tryz.prog 16 #[.agg #[.int .i64 o', .int .i64 a', .slice wd' wl' wc']] wx fun e w' => e = .returned (.int .u32 ((kset (evk m r) 14 : Nat) : Int)) ∧ Tw w (.int .i64 o) (.int .i64 a) (.slice wd wl wc) (.int .i64 o') (.int .i64 a') (.slice wd' wl' wc') w') := fun wx h => (refKinds_any m r _ _ _ wx (RepW.below h.below m _ _ hx) hg').mono fun e w' ⟨a, b⟩ => ⟨a, h.step b⟩
  have HS : Hid (∀ wx, Tw w (.int .i64 o) (.int .i64 a) (.slice wd wl wc) (.int .i64 o') (.int .i64 a') (.slice wd' wl' wc') wx → (wx.cell? ⟨w.heap.size, 0, none⟩ = some (.int .i64 o) ∧ wx.cell? ⟨w.heap.size, 1, none⟩ = some (.int .i64 a) ∧ wx.cell? ⟨w.heap.size, 2, none⟩ = some (.slice wd wl wc)) ∧ wx.cell? ⟨w.heap.size + 1, 0, none⟩ = some (.int .i64 o') ∧ wx.cell? ⟨w.heap.size + 1, 1, none⟩ = some (.int .i64 a') ∧ wx.cell? ⟨w.heap.size + 1, 2, none⟩ = some (.slice wd' wl' wc')) := fun wx h => h.c
  have hb0 := Tw.start w (.int .i64 o) (.int .i64 a) (.slice wd wl wc) (.int .i64 o') (.int .i64 a') (.slice wd' wl' wc')
  have ho := off_bits (evk n t) (evk m r)
  unfold covB
  generalize offN (evk n t) (evk m r) = Z at ho
  generalize kset (evk n t) 14 = X at KA ho
  generalize kset (evk m r) 14 = Y at KB ho
  clear hr hx hg hg'
  go_enter Tryz.func18, Tryz.ntmps18
  go_wp2_with fail
  go_region_held3 (fun wx => (wx.cell? ⟨w.heap.size, 0, none⟩ = some (.int .i64 o) ∧ wx.cell? ⟨w.heap.size, 1, none⟩ = some (.int .i64 a) ∧ wx.cell? ⟨w.heap.size, 2, none⟩ = some (.slice wd wl wc)) ∧ wx.cell? ⟨w.heap.size + 1, 0, none⟩ = some (.int .i64 o') ∧ wx.cell? ⟨w.heap.size + 1, 1, none⟩ = some (.int .i64 a') ∧ wx.cell? ⟨w.heap.size + 1, 2, none⟩ = some (.slice wd' wl' wc')) (exact HS.out _ (by first | assumption | exact Tw.drew (by assumption))) (first | (go_at_call 16; with_reducible refine (KA.out _ (by first | assumption | exact Tw.drew (by assumption))).mono ?_; rintro e wa ⟨rfl, ba⟩) | (go_at_call 16; with_reducible refine (KB.out _ (by first | assumption | exact Tw.drew (by assumption))).mono ?_; rintro e wc ⟨rfl, bc⟩))
  all_goals go_wp2
  all_goals go_ret
  all_goals exact ⟨ret_b (natz Z), Tw.below (by first | assumption | exact Tw.drew (by assumption))⟩
set_option maxRecDepth 100000 in
set_option maxHeartbeats 2000000 in
theorem meetsR (n m : Nat) (t : Wt n) (r : Wt m) (v0 v1 v2 x0 x1 x2 : Value) (w : World) (hr : RepW w n [v0, v1, v2] t) (hx : RepW w m [x0, x1, x2] r) (hg : wgt n t = true) (hg' : wgt m r = true) :
    Calls Tryz.prog 20 #[.agg #[v0, v1, v2], .agg #[x0, x1, x2]] w fun e w' => e = .returned (.bool (meeB (evk n t) (evk m r))) ∧ Below w.heap.size w w' := by
  obtain ⟨o, a, wd, wl, wc, rfl, rfl, rfl⟩ := repW_shape hr
  obtain ⟨o', a', wd', wl', wc', rfl, rfl, rfl⟩ := repW_shape hx
  have KA : Hid (∀ wx, Tw w (.int .i64 o) (.int .i64 a) (.slice wd wl wc) (.int .i64 o') (.int .i64 a') (.slice wd' wl' wc') wx → Calls Tryz.prog 16 #[.agg #[.int .i64 o, .int .i64 a, .slice wd wl wc]] wx fun e w' => e = .returned (.int .u32 ((kset (evk n t) 14 : Nat) : Int)) ∧ Tw w (.int .i64 o) (.int .i64 a) (.slice wd wl wc) (.int .i64 o') (.int .i64 a') (.slice wd' wl' wc') w') := fun wx h => (refKinds_any n t _ _ _ wx (RepW.below h.below n _ _ hr) hg).mono fun e w' ⟨a, b⟩ => ⟨a, h.step b⟩
  have KB : Hid (∀ wx, Tw w (.int .i64 o) (.int .i64 a) (.slice wd wl wc) (.int .i64 o') (.int .i64 a') (.slice wd' wl' wc') wx → Calls Tryz.prog 16 #[.agg #[.int .i64 o', .int .i64 a', .slice wd' wl' wc']] wx fun e w' => e = .returned (.int .u32 ((kset (evk m r) 14 : Nat) : Int)) ∧ Tw w (.int .i64 o) (.int .i64 a) (.slice wd wl wc) (.int .i64 o') (.int .i64 a') (.slice wd' wl' wc') w') := fun wx h => (refKinds_any m r _ _ _ wx (RepW.below h.below m _ _ hx) hg').mono fun e w' ⟨a, b⟩ => ⟨a, h.step b⟩
  have HS : Hid (∀ wx, Tw w (.int .i64 o) (.int .i64 a) (.slice wd wl wc) (.int .i64 o') (.int .i64 a') (.slice wd' wl' wc') wx → (wx.cell? ⟨w.heap.size, 0, none⟩ = some (.int .i64 o) ∧ wx.cell? ⟨w.heap.size, 1, none⟩ = some (.int .i64 a) ∧ wx.cell? ⟨w.heap.size, 2, none⟩ = some (.slice wd wl wc)) ∧ wx.cell? ⟨w.heap.size + 1, 0, none⟩ = some (.int .i64 o') ∧ wx.cell? ⟨w.heap.size + 1, 1, none⟩ = some (.int .i64 a') ∧ wx.cell? ⟨w.heap.size + 1, 2, none⟩ = some (.slice wd' wl' wc')) := fun wx h => h.c
  have hb0 := Tw.start w (.int .i64 o) (.int .i64 a) (.slice wd wl wc) (.int .i64 o') (.int .i64 a') (.slice wd' wl' wc')
  have ho := both_bits (evk n t) (evk m r)
  unfold meeB
  generalize bothN (evk n t) (evk m r) = Z at ho
  generalize kset (evk n t) 14 = X at KA ho
  generalize kset (evk m r) 14 = Y at KB ho
  clear hr hx hg hg'
  go_enter Tryz.func20, Tryz.ntmps20
  go_wp2_with fail
  go_region_held3 (fun wx => (wx.cell? ⟨w.heap.size, 0, none⟩ = some (.int .i64 o) ∧ wx.cell? ⟨w.heap.size, 1, none⟩ = some (.int .i64 a) ∧ wx.cell? ⟨w.heap.size, 2, none⟩ = some (.slice wd wl wc)) ∧ wx.cell? ⟨w.heap.size + 1, 0, none⟩ = some (.int .i64 o') ∧ wx.cell? ⟨w.heap.size + 1, 1, none⟩ = some (.int .i64 a') ∧ wx.cell? ⟨w.heap.size + 1, 2, none⟩ = some (.slice wd' wl' wc')) (exact HS.out _ (by first | assumption | exact Tw.drew (by assumption))) (first | (go_at_call 16; with_reducible refine (KA.out _ (by first | assumption | exact Tw.drew (by assumption))).mono ?_; rintro e wa ⟨rfl, ba⟩) | (go_at_call 16; with_reducible refine (KB.out _ (by first | assumption | exact Tw.drew (by assumption))).mono ?_; rintro e wc ⟨rfl, bc⟩))
  all_goals go_wp2
  all_goals go_ret
  all_goals exact ⟨ret_b (natn Z), Tw.below (by first | assumption | exact Tw.drew (by assumption))⟩
end Go.Proofs.YtokiaolgdkikiaaGreat
