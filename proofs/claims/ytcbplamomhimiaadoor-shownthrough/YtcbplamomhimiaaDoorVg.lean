/- Pattern of the document whole, and Right; the conditions: the pattern's tree in memory. -/
import Derived.Test.YtcbplamomhimiaaDoorVf
namespace Go.Proofs.YtcbplamomhimiaaDoor
open Go.RowKit

set_option maxRecDepth 100000 in
set_option maxHeartbeats 4000000 in
theorem pat_not (n : Nat) (ih : PatN n) (t : Wt n) (ad : Option Addr) (cap : Nat) (d : Int) (w : World) (hr : KidsW w n ad [t]) (hd0 : 0 ≤ d) (hd : ¬ 32 < d) :
    Calls Tryd.prog 61 #[.agg #[.int .i64 6, .int .i64 0, .slice ad 1 cap], .int .i64 d] w fun e w' => e = .returned (.bool (pt n t (inn n 6 d t))) ∧ Below w.heap.size w w' := by
  have hb0 := One.start w (.int .i64 6) (.int .i64 0) (.slice ad 1 cap)
  rcases hr with hk | ⟨g, oo, hk1, hk2⟩
  · cases hk
  subst hk1
  obtain ⟨v0, v1, v2, e0, e1, e2, rk⟩ := hk2 0 t rfl
  rw [Nat.zero_mul, Nat.add_zero] at e0 e1 e2
  have hgl : g < w.heap.size := World.block_lt_of_cell? w _ e0
  have KP : Hid (∀ wx, One w (.int .i64 6) (.int .i64 0) (.slice (some ⟨g, oo, none⟩) 1 cap) wx → Calls Tryd.prog 61 #[.agg #[v0, v1, v2], .int .i64 (inn n 6 d t)] wx fun e w' => e = .returned (.bool (pt n t (inn n 6 d t))) ∧ One w (.int .i64 6) (.int .i64 0) (.slice (some ⟨g, oo, none⟩) 1 cap) w') := fun wx hx => (ih t v0 v1 v2 _ wx (RepW.below hx.below n _ _ rk) (by unfold inn; split <;> split <;> omega) (by unfold inn; split <;> split <;> omega)).mono fun e w' ⟨a, b⟩ => ⟨a, hx.step b⟩
  obtain ⟨m', ad', len', cap', rfl, rfl, rfl⟩ := repW_top rk
  have KQ : Hid (∀ wx, Calls Tryd.prog 64 #[.int .i64 6, .int .i64 (topW n t)] wx fun e w' => e = .returned (.bool (prn 6 (topW n t))) ∧ w' = wx) := parens_any 6 _
  have hinn : inn n 6 d t = d + 1 + (if prn 6 (topW n t) = true then 1 else 0) := by unfold inn; rw [if_pos rfl]
  have X : ∀ wx, One w (.int .i64 6) (.int .i64 0) (.slice (some ⟨g, oo, none⟩) 1 cap) wx → wx.cell? ⟨g, oo, none⟩ = some (.int .i64 (topW n t)) ∧ wx.cell? ⟨g, oo + 1, none⟩ = some (.int .i64 m') ∧ wx.cell? ⟨g, oo + 2, none⟩ = some (.slice ad' len' cap') := fun wx hx => ⟨(hx.below.cell (p := ⟨g, oo, none⟩) hgl).trans e0, (hx.below.cell (p := ⟨g, oo + 1, none⟩) hgl).trans e1, (hx.below.cell (p := ⟨g, oo + 2, none⟩) hgl).trans e2⟩
  obtain ⟨x0, x1, x2⟩ := X _ hb0
  clear e0 e1 e2 hk2 rk ih X
  generalize pt n t (inn n 6 d t) = B at KP ⊢
  generalize topW n t = tp at KP KQ hinn x0
  cases hp : prn 6 tp with
  | true =>
    rw [hp] at hinn KQ
    have hq : inn n 6 d t = d + 1 + 1 := by rw [hinn, if_pos rfl]
    rw [hq] at KP
    clear hq hinn hp
    go_enter Tryd.func61, Tryd.ntmps61
    go_wp2_with fail
    go_quiet ((go_at_call 64; exact Calls.quiet_of_same (KQ.out _)))
    go_wp2_with (first
      | (go_at_call 61; refine (KP.out _ (by first | assumption | exact One.drew (by assumption) | exact One.drewN (by assumption) _)).mono ?_; rintro e w1 ⟨rfl, b1⟩))
    go_ret
    exact ⟨rfl, b1.below⟩
  | false =>
    rw [hp] at hinn KQ
    have hq : inn n 6 d t = d + 1 := by rw [hinn, if_neg (by simp)]; omega
    rw [hq] at KP
    clear hq hinn hp
    go_enter Tryd.func61, Tryd.ntmps61
    go_wp2_with fail
    go_quiet ((go_at_call 64; exact Calls.quiet_of_same (KQ.out _)))
    go_wp2_with (first
      | (go_at_call 61; refine (KP.out _ (by first | assumption | exact One.drew (by assumption) | exact One.drewN (by assumption) _)).mono ?_; rintro e w1 ⟨rfl, b1⟩))
    go_ret
    exact ⟨rfl, b1.below⟩
theorem pat_any : ∀ n, PatN n
  | 0 => fun t => t.elim
  | n + 1 => by
    intro t v0 v1 v2 d w hr h1 h2
    obtain ⟨ad, cap, e, hcap, hmax, hk⟩ := hr
    simp only [List.cons.injEq, and_true] at e
    obtain ⟨rfl, rfl, rfl⟩ := e
    simp only [pt]
    by_cases hd : 32 < d
    · rw [if_pos hd]; exact pat_deep _ _ ad _ cap d w hd
    · rw [if_neg hd]
      cases hok : t.ok with
      | false => rw [Bool.false_and]; exact pat_bad _ _ _ hok ad cap d w h1 hd
      | true =>
        rw [Bool.true_and]
        have ho : okW t.op t.nm t.ks.length = true := hok
        have hop := okW_op ho
        show Calls _ _ _ _ fun e w' => e = .returned (.bool (t.ks.all fun t' => pt n t' (inn n t.op d t'))) ∧ _
        generalize t.nm = m at ho ⊢
        generalize t.ks = ts at ho hk hcap ⊢
        generalize t.op = o at ho hop ⊢
        rcases hop with rfl | rfl | rfl | rfl | rfl | rfl
        · have h' := of_decide_eq_true (show decide (m = 0 ∧ ts.length = 0) = true from ho)
          obtain ⟨rfl, hl⟩ := h'
          obtain rfl := List.eq_nil_of_length_eq_zero hl
          exact pat1y ad cap d w h1 hd
        · have h' := of_decide_eq_true (show decide (0 ≤ m ∧ m < 14 ∧ ts.length = 0) = true from ho)
          obtain ⟨ha, hb, hl⟩ := h'
          obtain rfl := List.eq_nil_of_length_eq_zero hl
          exact pat2y m (by omega) (by omega) ad cap d w h1 hd
        · have h' := of_decide_eq_true (show decide (0 ≤ m ∧ m < 10 ∧ ts.length = 0) = true from ho)
          obtain ⟨ha, hb, hl⟩ := h'
          obtain rfl := List.eq_nil_of_length_eq_zero hl
          exact pat3y m (by omega) (by omega) ad cap d w h1 hd
        · have h' := of_decide_eq_true (show decide (m = 0 ∧ 2 ≤ ts.length) = true from ho)
          obtain ⟨rfl, hl⟩ := h'
          exact pat_row4 n (pat_any n) ts ad cap d w hcap hmax hk hl h1 hd
        · have h' := of_decide_eq_true (show decide (m = 0 ∧ 2 ≤ ts.length) = true from ho)
          obtain ⟨rfl, hl⟩ := h'
          exact pat_row5 n (pat_any n) ts ad cap d w hcap hmax hk hl h1 hd
        · have h' := of_decide_eq_true (show decide (m = 0 ∧ ts.length = 1) = true from ho)
          obtain ⟨rfl, hl⟩ := h'
          match ts, hl with
          | [t'], _ =>
            have := pat_not n (pat_any n) t' ad cap d w hk h1 hd
            simpa using this
set_option maxRecDepth 100000 in
set_option maxHeartbeats 4000000 in
theorem right_any (n : Nat) (t : Wt n) (v0 v1 v2 : Value) (w : World) (h : RepW w n [v0, v1, v2] t) :
    Calls Tryd.prog 58 #[.agg #[v0, v1, v2]] w fun e w' => e = .returned (.bool (rgtW n t)) ∧ Below w.heap.size w w' := by
  have hb0 := One.start w v0 v1 v2
  have KC : Hid (∀ wx, One w v0 v1 v2 wx → Calls Tryd.prog 60 #[.agg #[v0, v1, v2], .int .i64 0, .int .i64 16384] wx fun e w' => e = .returned (.int .i64 (ct n t 0 16384)) ∧ One w v0 v1 v2 w') := fun wx hx => (count_any n t v0 v1 v2 0 16384 wx (RepW.below hx.below n _ _ h) (by decide) (by decide) (by decide) (by decide)).mono fun e w' ⟨a, b⟩ => ⟨a, hx.step b⟩
  have KP : Hid (∀ wx, One w v0 v1 v2 wx → Calls Tryd.prog 61 #[.agg #[v0, v1, v2], .int .i64 0] wx fun e w' => e = .returned (.bool (pt n t 0)) ∧ One w v0 v1 v2 w') := fun wx hx => (pat_any n t v0 v1 v2 0 wx (RepW.below hx.below n _ _ h) (by decide) (by decide)).mono fun e w' ⟨a, b⟩ => ⟨a, hx.step b⟩
  have HS : Hid (∀ wx, One w v0 v1 v2 wx → wx.cell? ⟨w.heap.size, 0, none⟩ = some v0 ∧ wx.cell? ⟨w.heap.size, 1, none⟩ = some v1 ∧ wx.cell? ⟨w.heap.size, 2, none⟩ = some v2) := fun wx h => h.c
  obtain ⟨o, m, ad, len, cap, rfl, rfl, rfl⟩ := repW_shape h
  have HW : Hid (rgtW n t = (decide (ct n t 0 16384 ≤ 16384) && pt n t 0)) := Lib.hid rfl
  generalize rgtW n t = R at HW ⊢
  generalize ct n t 0 16384 = C at KC HW
  generalize pt n t 0 = B at KP HW
  clear h
  by_cases hc : C ≤ 16384
  · rw [decide_eq_true hc] at HW
    go_enter Tryd.func58, Tryd.ntmps58
    go_wp2_with (first
      | (go_at_call 60; refine (KC.out _ hb0).mono ?_; rintro e w1 ⟨rfl, b1⟩; obtain ⟨x0, x1, x2⟩ := HS.out _ b1)
      | (go_at_call 61; refine (KP.out _ b1).mono ?_; rintro e w2 ⟨rfl, b2⟩))
    go_ret
    exact ⟨by rw [HW.out]; rfl, b2.below⟩
  · rw [decide_eq_false hc] at HW
    go_enter Tryd.func58, Tryd.ntmps58
    go_wp2_with (first
      | (go_at_call 60; refine (KC.out _ hb0).mono ?_; rintro e w1 ⟨rfl, b1⟩; obtain ⟨x0, x1, x2⟩ := HS.out _ b1))
    go_ret
    exact ⟨by rw [HW.out]; rfl, b1.below⟩
end Go.Proofs.YtcbplamomhimiaaDoor
