/- The law WantFits over a pattern's tree: true, in new memory alone; the condition: the tree in memory. -/
import Derived.Test.YtokiaolgdkikiaaGreatAwk
namespace Go.Proofs.YtokiaolgdkikiaaGreat
open Go.RowKit

set_option maxRecDepth 100000 in
set_option maxHeartbeats 2000000 in
theorem law_fits (n : Nat) (t : Wt n) (v0 v1 v2 : Value) (w : World) (h : RepW w n [v0, v1, v2] t) :
    Calls Tryz.prog 3 #[.agg #[v0, v1, v2]] w fun e w' => e = .returned (.bool true) ∧ Below w.heap.size w w' := by
  obtain ⟨o, m, ad, len, cap, rfl, rfl, rfl⟩ := repW_shape h
  have HV : Hid (∀ wx, One w (.int .i64 o) (.int .i64 m) (.slice ad len cap) wx → Calls Tryz.prog 9 #[.agg #[.int .i64 o, .int .i64 m, .slice ad len cap]] wx fun e w' => e = .returned (.bool (fitW n t)) ∧ One w (.int .i64 o) (.int .i64 m) (.slice ad len cap) w') := fun wx hx => (valid_any n t _ _ _ wx (RepW.below hx.below n _ _ h)).mono fun e w' ⟨a, b⟩ => ⟨by rw [a, fitW_valid], hx.step b⟩
  have HF : Hid (∀ wx, One w (.int .i64 o) (.int .i64 m) (.slice ad len cap) wx → Calls Tryz.prog 10 #[.agg #[.int .i64 o, .int .i64 m, .slice ad len cap]] wx fun e w' => e = .returned (.bool (fitW n t)) ∧ One w (.int .i64 o) (.int .i64 m) (.slice ad len cap) w') := fun wx hx => (fit_any n t _ _ _ wx (RepW.below hx.below n _ _ h)).mono fun e w' ⟨a, b⟩ => ⟨a, hx.step b⟩
  have HA : Hid (∀ wx, One w (.int .i64 o) (.int .i64 m) (.slice ad len cap) wx → Calls Tryz.prog 11 #[] wx fun e w' => e = .returned (.bool true) ∧ One w (.int .i64 o) (.int .i64 m) (.slice ad len cap) w') := fun wx hx => (awake_any wx).mono fun e w' ⟨a, b⟩ => ⟨a, hx.step b⟩
  have HS : Hid (∀ wx, One w (.int .i64 o) (.int .i64 m) (.slice ad len cap) wx → wx.cell? ⟨w.heap.size, 0, none⟩ = some (.int .i64 o) ∧ wx.cell? ⟨w.heap.size, 1, none⟩ = some (.int .i64 m) ∧ wx.cell? ⟨w.heap.size, 2, none⟩ = some (.slice ad len cap)) := fun wx h => h.c
  have hb0 := One.start w (.int .i64 o) (.int .i64 m) (.slice ad len cap)
  clear h
  generalize fitW n t = V at HV HF
  cases V
  all_goals
    go_enter Tryz.func3, Tryz.ntmps3
    go_wp2_with fail
    go_region_held3 (fun w' => w'.cell? ⟨w.heap.size, 0, none⟩ = some (.int .i64 o) ∧ w'.cell? ⟨w.heap.size, 1, none⟩ = some (.int .i64 m) ∧ w'.cell? ⟨w.heap.size, 2, none⟩ = some (.slice ad len cap)) (exact HS.out _ (by first | assumption | exact One.drew (by assumption))) (first | (go_at_call 9; refine (HV.out _ (by first | assumption | exact One.drew (by assumption))).mono ?_; rintro e wa ⟨rfl, ba⟩) | (go_at_call 10; refine (HF.out _ (by first | assumption | exact One.drew (by assumption))).mono ?_; rintro e wb ⟨rfl, bb⟩) | (go_at_call 11; refine (HA.out _ (by first | assumption | exact One.drew (by assumption))).mono ?_; rintro e wc ⟨rfl, bc⟩))
    all_goals go_wp2
    all_goals go_ret
    all_goals exact ⟨rfl, One.below (by first | assumption | exact One.drew (by assumption))⟩
end Go.Proofs.YtokiaolgdkikiaaGreat
