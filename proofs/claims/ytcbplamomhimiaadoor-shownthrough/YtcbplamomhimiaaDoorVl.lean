/- A wrapper that is fit, by the document: where it tells so, what of it counts here holds; the conditions: its pattern where it is told to lie. -/
import Derived.Test.YtcbplamomhimiaaDoorVk
namespace Go.Proofs.YtcbplamomhimiaaDoor
open Go.RowKit

set_option maxRecDepth 100000 in
set_option maxHeartbeats 4000000 in
theorem wrapA (o A B : Int) (cp : Nat) (w0 w1 : Int) (wa : Option Addr) (wl wc : Nat) (on : Bool) (n : Nat) (t : Wt n) (w : World) (hr : RepW w n [.int .i64 w0, .int .i64 w1, .slice wa wl wc] t) (h1' : ¬ o < 1) (h2' : ¬ 13 ≤ o) (hcp : cp ≤ 2047) (h10 : cp.testBit 10 = false)
    (N l0 l1 h0 h1 : Int) (c1 c2 : Bool) (hR : ∀ w, Calls Tryd.prog 44 #[.int .i64 o] w fun e w' => e = .returned (.agg #[.int .i64 N, .int .i64 l0, .int .i64 l1, .int .i64 h0, .int .i64 h1, .bool c1, .bool c2, .bool false]) ∧ Below w.heap.size w w') :
    Calls Tryd.prog 29 #[.agg #[.int .i64 o, .int .i64 A, .int .i64 B, .int .u32 (cp : Nat), .int .i64 w0, .int .i64 w1, .slice wa wl wc, .bool on]] w fun e w' => ∃ b, e = .returned (.bool b) ∧ Below w.heap.size w w' := by
  have b0 := On.start w (.cells #[.int .i64 o, .int .i64 A, .int .i64 B, .int .u32 (cp : Nat), .int .i64 w0, .int .i64 w1, .slice wa wl wc, .bool on] 35)
  have KV := Lib.hid (rvalid_any cp)
  rw [decide_eq_true hcp] at KV
  have KH := Lib.hid (rhas_any cp 10 (by omega) (by decide))
  rw [h10] at KH
  have KR : Hid (∀ wx, On w (.cells #[.int .i64 o, .int .i64 A, .int .i64 B, .int .u32 (cp : Nat), .int .i64 w0, .int .i64 w1, .slice wa wl wc, .bool on] 35) wx → Calls Tryd.prog 44 #[.int .i64 o] wx fun e w' => e = .returned (.agg #[.int .i64 N, .int .i64 l0, .int .i64 l1, .int .i64 h0, .int .i64 h1, .bool c1, .bool c2, .bool false]) ∧ On w (.cells #[.int .i64 o, .int .i64 A, .int .i64 B, .int .u32 (cp : Nat), .int .i64 w0, .int .i64 w1, .slice wa wl wc, .bool on] 35) w') := fun wx hx => (hR wx).mono fun e w' ⟨a, b⟩ => ⟨a, hx.step b⟩
  have HS : Hid (∀ wx, On w (.cells #[.int .i64 o, .int .i64 A, .int .i64 B, .int .u32 (cp : Nat), .int .i64 w0, .int .i64 w1, .slice wa wl wc, .bool on] 35) wx → wx.cell? ⟨w.heap.size, 1, none⟩ = some (.int .i64 A) ∧ wx.cell? ⟨w.heap.size, 2, none⟩ = some (.int .i64 B) ∧ wx.cell? ⟨w.heap.size, 3, none⟩ = some (.int .u32 (cp : Nat)) ∧ wx.cell? ⟨w.heap.size, 4, none⟩ = some (.int .i64 w0) ∧ wx.cell? ⟨w.heap.size, 5, none⟩ = some (.int .i64 w1) ∧ wx.cell? ⟨w.heap.size, 6, none⟩ = some (.slice wa wl wc) ∧ w.heap.size < wx.heap.size) := fun wx h => ⟨h.cell 1, h.cell 2, h.cell 3, h.cell 4, h.cell 5, h.cell 6, by have := h.size; omega⟩
  have KN : Hid (∀ wx, On w (.cells #[.int .i64 o, .int .i64 A, .int .i64 B, .int .u32 (cp : Nat), .int .i64 w0, .int .i64 w1, .slice wa wl wc, .bool on] 35) wx → Calls Tryd.prog 48 #[.agg #[.int .i64 w0, .int .i64 w1, .slice wa wl wc]] wx fun e w' => ∃ b, e = .returned (.bool b) ∧ Below w.heap.size w w') := fun wx hx => (none_any w0 w1 wa wl wc wx).mono fun e w' ⟨a, b⟩ => ⟨_, a, (hx.step b).below⟩
  have KW : Hid (∀ wx, On w (.cells #[.int .i64 o, .int .i64 A, .int .i64 B, .int .u32 (cp : Nat), .int .i64 w0, .int .i64 w1, .slice wa wl wc, .bool on] 35) wx → Calls Tryd.prog 47 #[.agg #[.int .i64 w0, .int .i64 w1, .slice wa wl wc]] wx fun e w' => ∃ b, e = .returned (.bool b) ∧ Below w.heap.size w w') := fun wx hx => (rwritten_any n t _ _ _ wx (RepW.below hx.below n _ _ hr)).mono fun e w' ⟨a, b⟩ => ⟨_, a, (hx.step b).below⟩
  clear hR hr h10 hcp
  by_cases q1 : A < l0
  · skip
    go_enter Tryd.func29, Tryd.ntmps29
    go_wp2_with (first
      | (go_at_call 41; refine (KV.out _).mono ?_; rintro e wv ⟨rfl, rfl⟩) | (go_at_call 37; refine (KH.out _).mono ?_; rintro e wh ⟨rfl, rfl⟩) | (go_at_call 44; refine (KR.out _ b0).mono ?_; rintro e w2 ⟨rfl, b2⟩; obtain ⟨y1, y2, y3, y4, y5, y6, y7⟩ := HS.out _ b2))
    go_ret
    exact ⟨_, rfl, (b2.step (below1 _ _)).below⟩
  by_cases q2 : h0 < A
  · skip
    go_enter Tryd.func29, Tryd.ntmps29
    go_wp2_with (first
      | (go_at_call 41; refine (KV.out _).mono ?_; rintro e wv ⟨rfl, rfl⟩) | (go_at_call 37; refine (KH.out _).mono ?_; rintro e wh ⟨rfl, rfl⟩) | (go_at_call 44; refine (KR.out _ b0).mono ?_; rintro e w2 ⟨rfl, b2⟩; obtain ⟨y1, y2, y3, y4, y5, y6, y7⟩ := HS.out _ b2))
    go_ret
    exact ⟨_, rfl, (b2.step (below1 _ _)).below⟩
  by_cases q3 : B < l1
  · skip
    go_enter Tryd.func29, Tryd.ntmps29
    go_wp2_with (first
      | (go_at_call 41; refine (KV.out _).mono ?_; rintro e wv ⟨rfl, rfl⟩) | (go_at_call 37; refine (KH.out _).mono ?_; rintro e wh ⟨rfl, rfl⟩) | (go_at_call 44; refine (KR.out _ b0).mono ?_; rintro e w2 ⟨rfl, b2⟩; obtain ⟨y1, y2, y3, y4, y5, y6, y7⟩ := HS.out _ b2))
    go_ret
    exact ⟨_, rfl, (b2.step (below1 _ _)).below⟩
  by_cases q4 : h1 < B
  · skip
    go_enter Tryd.func29, Tryd.ntmps29
    go_wp2_with (first
      | (go_at_call 41; refine (KV.out _).mono ?_; rintro e wv ⟨rfl, rfl⟩) | (go_at_call 37; refine (KH.out _).mono ?_; rintro e wh ⟨rfl, rfl⟩) | (go_at_call 44; refine (KR.out _ b0).mono ?_; rintro e w2 ⟨rfl, b2⟩; obtain ⟨y1, y2, y3, y4, y5, y6, y7⟩ := HS.out _ b2))
    go_ret
    exact ⟨_, rfl, (b2.step (below1 _ _)).below⟩
  by_cases q5 : cp = 0
  · have q6 : (((cp : Nat) : Int) == 0) = true := by simp; omega
    have q7 : (((cp : Nat) : Int) != 0) = false := by simp; omega
    clear q5
    cases c1
    · cases c2
      · skip
        go_enter Tryd.func29, Tryd.ntmps29
        go_wp2_with (first
          | (go_at_call 41; refine (KV.out _).mono ?_; rintro e wv ⟨rfl, rfl⟩) | (go_at_call 37; refine (KH.out _).mono ?_; rintro e wh ⟨rfl, rfl⟩) | (go_at_call 44; refine (KR.out _ b0).mono ?_; rintro e w2 ⟨rfl, b2⟩; obtain ⟨y1, y2, y3, y4, y5, y6, y7⟩ := HS.out _ b2)
          | (go_at_call 48; refine (KN.out _ (b2.step (below1 _ _))).mono ?_; rintro e w5 ⟨b5, rfl, h5⟩))
        go_ret
        exact ⟨_, rfl, h5⟩
      · skip
        go_enter Tryd.func29, Tryd.ntmps29
        go_wp2_with (first
          | (go_at_call 41; refine (KV.out _).mono ?_; rintro e wv ⟨rfl, rfl⟩) | (go_at_call 37; refine (KH.out _).mono ?_; rintro e wh ⟨rfl, rfl⟩) | (go_at_call 44; refine (KR.out _ b0).mono ?_; rintro e w2 ⟨rfl, b2⟩; obtain ⟨y1, y2, y3, y4, y5, y6, y7⟩ := HS.out _ b2)
          | (go_at_call 47; refine (KW.out _ (b2.step (below1 _ _))).mono ?_; rintro e w5 ⟨b5, rfl, h5⟩))
        go_ret
        exact ⟨_, rfl, h5⟩
    · skip
      go_enter Tryd.func29, Tryd.ntmps29
      go_wp2_with (first
        | (go_at_call 41; refine (KV.out _).mono ?_; rintro e wv ⟨rfl, rfl⟩) | (go_at_call 37; refine (KH.out _).mono ?_; rintro e wh ⟨rfl, rfl⟩) | (go_at_call 44; refine (KR.out _ b0).mono ?_; rintro e w2 ⟨rfl, b2⟩; obtain ⟨y1, y2, y3, y4, y5, y6, y7⟩ := HS.out _ b2))
      go_ret
      exact ⟨_, rfl, (b2.step (below1 _ _)).below⟩
  · have q6 : (((cp : Nat) : Int) == 0) = false := by simp; omega
    have q7 : (((cp : Nat) : Int) != 0) = true := by simp; omega
    clear q5
    cases c1
    · skip
      go_enter Tryd.func29, Tryd.ntmps29
      go_wp2_with (first
        | (go_at_call 41; refine (KV.out _).mono ?_; rintro e wv ⟨rfl, rfl⟩) | (go_at_call 37; refine (KH.out _).mono ?_; rintro e wh ⟨rfl, rfl⟩) | (go_at_call 44; refine (KR.out _ b0).mono ?_; rintro e w2 ⟨rfl, b2⟩; obtain ⟨y1, y2, y3, y4, y5, y6, y7⟩ := HS.out _ b2))
      go_ret
      exact ⟨_, rfl, (b2.step (below1 _ _)).below⟩
    · cases c2
      · skip
        go_enter Tryd.func29, Tryd.ntmps29
        go_wp2_with (first
          | (go_at_call 41; refine (KV.out _).mono ?_; rintro e wv ⟨rfl, rfl⟩) | (go_at_call 37; refine (KH.out _).mono ?_; rintro e wh ⟨rfl, rfl⟩) | (go_at_call 44; refine (KR.out _ b0).mono ?_; rintro e w2 ⟨rfl, b2⟩; obtain ⟨y1, y2, y3, y4, y5, y6, y7⟩ := HS.out _ b2)
          | (go_at_call 48; refine (KN.out _ (b2.step (below1 _ _))).mono ?_; rintro e w5 ⟨b5, rfl, h5⟩))
        go_ret
        exact ⟨_, rfl, h5⟩
      · skip
        go_enter Tryd.func29, Tryd.ntmps29
        go_wp2_with (first
          | (go_at_call 41; refine (KV.out _).mono ?_; rintro e wv ⟨rfl, rfl⟩) | (go_at_call 37; refine (KH.out _).mono ?_; rintro e wh ⟨rfl, rfl⟩) | (go_at_call 44; refine (KR.out _ b0).mono ?_; rintro e w2 ⟨rfl, b2⟩; obtain ⟨y1, y2, y3, y4, y5, y6, y7⟩ := HS.out _ b2)
          | (go_at_call 47; refine (KW.out _ (b2.step (below1 _ _))).mono ?_; rintro e w5 ⟨b5, rfl, h5⟩))
        go_ret
        exact ⟨_, rfl, h5⟩
end Go.Proofs.YtcbplamomhimiaaDoor
