/- The law WantHolds over a pattern's and a value's tree: true, in new memory alone; the condition: the trees in memory. -/
import Derived.Test.YtokiaolgdkikiaaGreatAwk
import Derived.Test.YtokiaolgdkikiaaGreatMat
import Derived.Test.YtokiaolgdkikiaaGreatDRv
namespace Go.Proofs.YtokiaolgdkikiaaGreat
open Go.RowKit

/-- A right value's kind is one. -/
theorem kind_in {k i u : Int} {z len : Nat} (h : Dt.okB k i u z len = true) : 0 ≤ k ∧ k ≤ 13 := by
  unfold Dt.okB at h
  by_cases hk : 0 ≤ k ∧ k ≤ 13
  · exact hk
  · rw [if_neg (by omega), if_neg (by omega), if_neg (by omega), if_neg (by omega), if_neg (by omega), if_neg (by omega), if_neg (by omega), if_neg (by omega), if_neg (by omega)] at h
    cases h
theorem valid_kind {w : World} {n : Nat} {d : Dt.Tr n} {k i u : Int} {s : ByteArray} {ad : Option Addr} {len cap : Nat} (h : Dt.Rep w n [.int .i64 k, .int .i64 i, .int .u64 u, .string s, .slice ad len cap] d) (hv : Dt.vB n d = true) : 0 ≤ k ∧ k ≤ 13 := by
  have S := Dt.say 16 n d 1 4096 (by decide) (by decide) (by decide)
  have hr := (S.down hv).1
  match n, d, h with
  | n + 1, d, h =>
    obtain ⟨ad', cap', e, -, -, -, -⟩ := h
    simp only [List.cons.injEq, and_true] at e
    obtain ⟨e0, e1, e2, e3, e4⟩ := e
    simp only [Dt.rgt, Bool.and_eq_true] at hr
    have := kind_in hr.1
    injection e0 with _ e0
    rw [e0]; exact this

set_option maxRecDepth 100000 in
set_option maxHeartbeats 4000000 in
theorem law_holds_at (n : Nat) (t : Wt n) (m : Nat) (d : Dt.Tr m) (o a : Int) (wd : Option Addr) (wl wc : Nat) (j i b : Int) (s : ByteArray) (ad : Option Addr) (len cap : Nat) (w : World) (h : RepW w n [.int .i64 o, .int .i64 a, .slice wd wl wc] t) (h' : Dt.Rep w m [.int .i64 j, .int .i64 i, .int .u64 b, .string s, .slice ad len cap] d) :
    Calls Tryz.prog 4 #[.agg #[.int .i64 o, .int .i64 a, .slice wd wl wc], .agg #[.int .i64 j, .int .i64 i, .int .u64 b, .string s, .slice ad len cap]] w fun e w' => e = .returned (.bool true) ∧ Below w.heap.size w w' := by
  have hb0 := OneD.start w (.int .i64 o) (.int .i64 a) (.slice wd wl wc) j i b s ad len cap
  have HF : Hid (∀ wx, OneD w (.int .i64 o) (.int .i64 a) (.slice wd wl wc) j i b s ad len cap wx → Calls Tryz.prog 10 #[.agg #[.int .i64 o, .int .i64 a, .slice wd wl wc]] wx fun e w' => e = .returned (.bool (fitW n t)) ∧ OneD w (.int .i64 o) (.int .i64 a) (.slice wd wl wc) j i b s ad len cap w') := fun wx hx => (fit_any n t _ _ _ wx (RepW.below hx.below n _ _ h)).mono fun e w' ⟨a, b⟩ => ⟨a, hx.step b⟩
  have HG : Hid (∀ wx, OneD w (.int .i64 o) (.int .i64 a) (.slice wd wl wc) j i b s ad len cap wx → Calls Tryz.prog 12 #[.agg #[.int .i64 j, .int .i64 i, .int .u64 b, .string s, .slice ad len cap]] wx fun e w' => e = .returned (.bool (Dt.vB m d)) ∧ OneD w (.int .i64 o) (.int .i64 a) (.slice wd wl wc) j i b s ad len cap w') := fun wx hx => (Dt.refValid m d _ _ _ _ _ wx (Dt.Rep.below hx.below m _ _ h')).mono fun e w' ⟨a, b⟩ => ⟨a, hx.step b⟩
  have HA : Hid (∀ wx, OneD w (.int .i64 o) (.int .i64 a) (.slice wd wl wc) j i b s ad len cap wx → Calls Tryz.prog 11 #[] wx fun e w' => e = .returned (.bool true) ∧ OneD w (.int .i64 o) (.int .i64 a) (.slice wd wl wc) j i b s ad len cap w') := fun wx hx => (awake_any wx).mono fun e w' ⟨a, b⟩ => ⟨a, hx.step b⟩
  have HS : Hid (∀ wx, OneD w (.int .i64 o) (.int .i64 a) (.slice wd wl wc) j i b s ad len cap wx → (wx.cell? ⟨w.heap.size, 0, none⟩ = some (.int .i64 o) ∧ wx.cell? ⟨w.heap.size, 1, none⟩ = some (.int .i64 a) ∧ wx.cell? ⟨w.heap.size, 2, none⟩ = some (.slice wd wl wc)) ∧ wx.cell? ⟨w.heap.size + 1, 0, none⟩ = some (.int .i64 j) ∧ wx.cell? ⟨w.heap.size + 1, 1, none⟩ = some (.int .i64 i) ∧ wx.cell? ⟨w.heap.size + 1, 2, none⟩ = some (.int .u64 b) ∧ wx.cell? ⟨w.heap.size + 1, 3, none⟩ = some (.string s) ∧ wx.cell? ⟨w.heap.size + 1, 4, none⟩ = some (.slice ad len cap)) := fun wx h => h.c5
  cases hV : fitW n t with
  | false =>
    rw [hV] at HF
    clear hV HG h h'
    obtain ⟨⟨c0, c1, c2⟩, d0, d1, d2, d3, d4⟩ := HS.out _ hb0
    go_enter Tryz.func4, Tryz.ntmps4
    go_wp2_with fail
    refine (HF.out _ hb0).mono ?_
    rintro e wa ⟨rfl, bwa⟩
    clear c0 c1 c2 d0 d1 d2 d3 d4
    obtain ⟨⟨c0, c1, c2⟩, d0, d1, d2, d3, d4⟩ := HS.out _ bwa
    go_wp2_with fail
    refine (HA.out _ bwa).mono ?_
    rintro e wb ⟨rfl, bwb⟩
    clear c0 c1 c2 d0 d1 d2 d3 d4
    go_wp2
    go_ret
    exact ⟨rfl, bwb.below⟩
  | true =>
    rw [hV] at HF
    have ga := fitW_right n t hV
    clear hV
    cases hU : Dt.vB m d with
    | false =>
      rw [hU] at HG
      clear hU h h' ga
      obtain ⟨⟨c0, c1, c2⟩, d0, d1, d2, d3, d4⟩ := HS.out _ hb0
      go_enter Tryz.func4, Tryz.ntmps4
      go_wp2_with fail
      refine (HF.out _ hb0).mono ?_
      rintro e wa ⟨rfl, bwa⟩
      clear c0 c1 c2 d0 d1 d2 d3 d4
      obtain ⟨⟨c0, c1, c2⟩, d0, d1, d2, d3, d4⟩ := HS.out _ bwa
      go_wp2_with fail
      refine (HG.out _ bwa).mono ?_
      rintro e wb ⟨rfl, bwb⟩
      clear c0 c1 c2 d0 d1 d2 d3 d4
      obtain ⟨⟨c0, c1, c2⟩, d0, d1, d2, d3, d4⟩ := HS.out _ bwb
      go_wp2_with fail
      refine (HA.out _ bwb).mono ?_
      rintro e wc ⟨rfl, bwc⟩
      clear c0 c1 c2 d0 d1 d2 d3 d4
      go_wp2
      go_ret
      exact ⟨rfl, bwc.below⟩
    | true =>
      rw [hU] at HG
      obtain ⟨k0, k1⟩ := valid_kind h' hU
      clear hU
      obtain ⟨q, rfl⟩ := Int.eq_ofNat_of_zero_le k0
      have hq : q < 14 := by omega
      have KA : Hid (∀ wx, OneD w (.int .i64 o) (.int .i64 a) (.slice wd wl wc) (q : Int) i b s ad len cap wx → Calls Tryz.prog 13 #[.agg #[.int .i64 o, .int .i64 a, .slice wd wl wc]] wx fun e w' => e = .returned (.int .u32 ((kset (evk n t) 14 : Nat) : Int)) ∧ OneD w (.int .i64 o) (.int .i64 a) (.slice wd wl wc) (q : Int) i b s ad len cap w') := fun wx hx => (kinds_any n t _ _ _ wx (RepW.below hx.below n _ _ h) ga).mono fun e w' ⟨a, b⟩ => ⟨a, hx.step b⟩
      have KR : Hid (∀ wx, OneD w (.int .i64 o) (.int .i64 a) (.slice wd wl wc) (q : Int) i b s ad len cap wx → Calls Tryz.prog 16 #[.agg #[.int .i64 o, .int .i64 a, .slice wd wl wc]] wx fun e w' => e = .returned (.int .u32 ((kset (evk n t) 14 : Nat) : Int)) ∧ OneD w (.int .i64 o) (.int .i64 a) (.slice wd wl wc) (q : Int) i b s ad len cap w') := fun wx hx => (refKinds_any n t _ _ _ wx (RepW.below hx.below n _ _ h) ga).mono fun e w' ⟨a, b⟩ => ⟨a, hx.step b⟩
      have HH : Hid (∀ wx, OneD w (.int .i64 o) (.int .i64 a) (.slice wd wl wc) (q : Int) i b s ad len cap wx → Calls Tryz.prog 14 #[.agg #[.int .i64 o, .int .i64 a, .slice wd wl wc], .agg #[.int .i64 (q : Int), .int .i64 i, .int .u64 b, .string s, .slice ad len cap]] wx fun e w' => e = .returned (.bool (evk n t q)) ∧ OneD w (.int .i64 o) (.int .i64 a) (.slice wd wl wc) (q : Int) i b s ad len cap w') := fun wx hx => (holdsP n t _ _ _ q i b s ad len cap wx (RepW.below hx.below n _ _ h) ga k0 k1).mono fun e w' ⟨a, b⟩ => ⟨a, hx.step b⟩
      have HM : Hid (∀ wx, OneD w (.int .i64 o) (.int .i64 a) (.slice wd wl wc) (q : Int) i b s ad len cap wx → Calls Tryz.prog 15 #[.agg #[.int .i64 o, .int .i64 a, .slice wd wl wc], .agg #[.int .i64 (q : Int), .int .i64 i, .int .u64 b, .string s, .slice ad len cap]] wx fun e w' => e = .returned (.bool (evk n t q)) ∧ OneD w (.int .i64 o) (.int .i64 a) (.slice wd wl wc) (q : Int) i b s ad len cap w') := fun wx hx => (matchR n t _ _ _ q i b s ad len cap wx (RepW.below hx.below n _ _ h) ga hq).mono fun e w' ⟨a, b⟩ => ⟨a, hx.step b⟩
      have hbit := shr_bit (evk n t) q hq
      have j0 : (0 : Int) ≤ (q : Int) := by omega
      have j1 : (q : Int) ≤ 32 := by omega
      clear h h' ga k0 k1
      generalize evk n t q = p at hbit HH HM
      generalize kset (evk n t) 14 = X at KA KR hbit
      cases p
      all_goals
        simp only [if_true, Bool.false_eq_true, if_false] at hbit
        obtain ⟨⟨c0, c1, c2⟩, d0, d1, d2, d3, d4⟩ := HS.out _ hb0
        go_enter Tryz.func4, Tryz.ntmps4
        go_wp2_with fail
        refine (HF.out _ hb0).mono ?_
        rintro e wa ⟨rfl, bwa⟩
        clear c0 c1 c2 d0 d1 d2 d3 d4
        obtain ⟨⟨c0, c1, c2⟩, d0, d1, d2, d3, d4⟩ := HS.out _ bwa
        go_wp2_with fail
        refine (HG.out _ bwa).mono ?_
        rintro e wb ⟨rfl, bwb⟩
        clear c0 c1 c2 d0 d1 d2 d3 d4
        obtain ⟨⟨c0, c1, c2⟩, d0, d1, d2, d3, d4⟩ := HS.out _ bwb
        go_wp2_with fail
        refine (KA.out _ bwb).mono ?_
        rintro e wz ⟨rfl, bwz⟩
        clear c0 c1 c2 d0 d1 d2 d3 d4
        obtain ⟨⟨c0, c1, c2⟩, d0, d1, d2, d3, d4⟩ := HS.out _ bwz
        go_wp2_with fail
        clear HF HG KA
        go_region_held3 (fun wx => (wx.cell? ⟨w.heap.size, 0, none⟩ = some (.int .i64 o) ∧ wx.cell? ⟨w.heap.size, 1, none⟩ = some (.int .i64 a) ∧ wx.cell? ⟨w.heap.size, 2, none⟩ = some (.slice wd wl wc)) ∧ wx.cell? ⟨w.heap.size + 1, 0, none⟩ = some (.int .i64 (q : Int)) ∧ wx.cell? ⟨w.heap.size + 1, 1, none⟩ = some (.int .i64 i) ∧ wx.cell? ⟨w.heap.size + 1, 2, none⟩ = some (.int .u64 b) ∧ wx.cell? ⟨w.heap.size + 1, 3, none⟩ = some (.string s) ∧ wx.cell? ⟨w.heap.size + 1, 4, none⟩ = some (.slice ad len cap)) (exact HS.out _ (by first | assumption | exact OneD.drew (by assumption))) (first | (go_at_call 14; refine (HH.out _ (by first | assumption | exact OneD.drew (by assumption))).mono ?_; rintro e wy ⟨rfl, by1⟩) | (go_at_call 15; refine (HM.out _ (by first | assumption | exact OneD.drew (by assumption))).mono ?_; rintro e wy ⟨rfl, by1⟩) | (go_at_call 16; refine (KR.out _ (by first | assumption | exact OneD.drew (by assumption))).mono ?_; rintro e wy ⟨rfl, by1⟩) | (go_at_call 11; refine (HA.out _ (by first | assumption | exact OneD.drew (by assumption))).mono ?_; rintro e wy ⟨rfl, by1⟩))
        all_goals go_wp2
        all_goals go_ret
        all_goals exact ⟨rfl, OneD.below (by first | assumption | exact OneD.drew (by assumption))⟩

theorem law_holds (n : Nat) (t : Wt n) (v0 v1 v2 : Value) (m : Nat) (d : Dt.Tr m) (x0 x1 x2 x3 x4 : Value) (w : World) (h : RepW w n [v0, v1, v2] t) (h' : Dt.Rep w m [x0, x1, x2, x3, x4] d) :
    Calls Tryz.prog 4 #[.agg #[v0, v1, v2], .agg #[x0, x1, x2, x3, x4]] w fun e w' => e = .returned (.bool true) ∧ Below w.heap.size w w' := by
  obtain ⟨o, a, wd, wl, wc, rfl, rfl, rfl⟩ := repW_shape h
  obtain ⟨j, i, b, s, ad, len, cap, rfl, rfl, rfl, rfl, rfl⟩ := Dt.rep_shape h'
  exact law_holds_at n t m d o a wd wl wc j i b s ad len cap w h h'
end Go.Proofs.YtokiaolgdkikiaaGreat
