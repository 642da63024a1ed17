/- The document's Same of two patterns with one tree: true; the condition: the trees in memory. -/
import Derived.Test.YtokiaolgdkikiaaGreatPlnR
namespace Go.Proofs.YtokiaolgdkikiaaGreat
open Go.RowKit

set_option maxRecDepth 100000 in
set_option maxHeartbeats 4000000 in
theorem sameR : ∀ (n : Nat) (t : Wt n) (v0 v1 v2 x0 x1 x2 : Value) (w : World), RepW w n [v0, v1, v2] t → RepW w n [x0, x1, x2] t →
    Calls Tryz.prog 22 #[.agg #[v0, v1, v2], .agg #[x0, x1, x2]] w fun e w' => e = .returned (.bool true) ∧ Below w.heap.size w w' := by
  intro n
  induction n with
  | zero => intro t; exact t.elim
  | succ n ih =>
    intro t v0 v1 v2 x0 x1 x2 w h h'
    obtain ⟨ad, cap, e, hlen, hcap, hk⟩ := h
    simp only [List.cons.injEq, and_true] at e
    obtain ⟨rfl, rfl, rfl⟩ := e
    obtain ⟨ad', cap', e, hlen', hcap', hk'⟩ := h'
    simp only [List.cons.injEq, and_true] at e
    obtain ⟨rfl, rfl, rfl⟩ := e
    have HK := Lib.hid hk
    have HK' := Lib.hid hk'
    have hb0 := Tw.start w (.int .i64 t.op) (.int .i64 t.nm) (.slice ad t.ks.length cap) (.int .i64 t.op) (.int .i64 t.nm) (.slice ad' t.ks.length cap')
    have HI : Hid (∀ (s : Wt n) (a0 a1 a2 b0 b1 b2 : Value) (wx : World), RepW w n [a0, a1, a2] s → RepW w n [b0, b1, b2] s → Tw w (.int .i64 t.op) (.int .i64 t.nm) (.slice ad t.ks.length cap) (.int .i64 t.op) (.int .i64 t.nm) (.slice ad' t.ks.length cap') wx → Calls Tryz.prog 22 #[.agg #[a0, a1, a2], .agg #[b0, b1, b2]] wx fun e w' => e = .returned (.bool true) ∧ Tw w (.int .i64 t.op) (.int .i64 t.nm) (.slice ad t.ks.length cap) (.int .i64 t.op) (.int .i64 t.nm) (.slice ad' t.ks.length cap') w') := fun s a0 a1 a2 b0 b1 b2 wx ha hb hx => (ih s _ _ _ _ _ _ wx (RepW.below hx.below n _ _ ha) (RepW.below hx.below n _ _ hb)).mono fun e w' ⟨a, b⟩ => ⟨a, hx.step b⟩
    have HS : Hid (∀ wx, Tw w (.int .i64 t.op) (.int .i64 t.nm) (.slice ad t.ks.length cap) (.int .i64 t.op) (.int .i64 t.nm) (.slice ad' t.ks.length cap') wx → (wx.cell? ⟨w.heap.size, 0, none⟩ = some (.int .i64 t.op) ∧ wx.cell? ⟨w.heap.size, 1, none⟩ = some (.int .i64 t.nm) ∧ wx.cell? ⟨w.heap.size, 2, none⟩ = some (.slice ad t.ks.length cap)) ∧ wx.cell? ⟨w.heap.size + 1, 0, none⟩ = some (.int .i64 t.op) ∧ wx.cell? ⟨w.heap.size + 1, 1, none⟩ = some (.int .i64 t.nm) ∧ wx.cell? ⟨w.heap.size + 1, 2, none⟩ = some (.slice ad' t.ks.length cap')) := fun wx h => h.c
    unfold maxLen at hcap hcap'
    clear ih hk hk'
    generalize t.op = o at HS HI hb0 ⊢
    generalize t.nm = m at HS HI hb0 ⊢
    generalize t.ks = ts at HS HI hb0 hlen hlen' HK HK' ⊢
    obtain ⟨⟨c0, c1, c2⟩, d0, d1, d2⟩ := HS.out _ hb0
    go_enter Tryz.func22, Tryz.ntmps22
    go_wp2_with fail
    clear c0 c1 c2 d0 d1 d2
    go_loopw [5] (fun si wr => ∃ (j : Nat), si = .int .i64 j ∧ j ≤ ts.length ∧ Tw w (.int .i64 o) (.int .i64 m) (.slice ad ts.length cap) (.int .i64 o) (.int .i64 m) (.slice ad' ts.length cap') wr) (fun si _ => ts.length - (intOf si).toNat)
    case atStart => exact ⟨0, rfl, Nat.zero_le _, hb0⟩
    case round =>
      obtain ⟨j, rfl, hj, hb⟩ := hrel
      obtain ⟨⟨c0, c1, c2⟩, d0, d1, d2⟩ := HS.out _ hb
      by_cases hlt : j < ts.length
      · have hne : ts ≠ [] := by intro e; rw [e] at hlt; exact absurd hlt (Nat.not_lt_zero _)
        rcases HK.out with hk | ⟨g, of, hk1, hk2⟩
        · exact absurd hk hne
        rcases HK'.out with hk | ⟨g', of', hk1', hk2'⟩
        · exact absurd hk hne
        subst hk1 hk1'
        obtain ⟨v0, v1, v2, e0, e1, e2, rk⟩ := hk2 j _ (List.getElem?_eq_getElem hlt)
        obtain ⟨x0, x1, x2, f0, f1, f2, rk'⟩ := hk2' j _ (List.getElem?_eq_getElem hlt)
        have hgl : g < w.heap.size := World.block_lt_of_cell? w _ e0
        have hgl' : g' < w.heap.size := World.block_lt_of_cell? w _ f0
        obtain ⟨u0, u1, a4, n4, c4, rfl, rfl, rfl⟩ := repW_shape rk
        obtain ⟨y0, y1, z4, m4, d4, rfl, rfl, rfl⟩ := repW_shape rk'
        have HX : Hid (∀ wx, Tw w (.int .i64 o) (.int .i64 m) (.slice (some ⟨g, of, none⟩) ts.length cap) (.int .i64 o) (.int .i64 m) (.slice (some ⟨g', of', none⟩) ts.length cap') wx → (wx.cell? ⟨w.heap.size, 2, none⟩ = some (.slice (some ⟨g, of, none⟩) ts.length cap) ∧ wx.cell? ⟨w.heap.size + 1, 2, none⟩ = some (.slice (some ⟨g', of', none⟩) ts.length cap')) ∧ (wx.cell? ⟨g, of + j * 3, none⟩ = some (.int .i64 u0) ∧ wx.cell? ⟨g, of + j * 3 + 1, none⟩ = some (.int .i64 u1) ∧ wx.cell? ⟨g, of + j * 3 + 2, none⟩ = some (.slice a4 n4 c4)) ∧ wx.cell? ⟨g', of' + j * 3, none⟩ = some (.int .i64 y0) ∧ wx.cell? ⟨g', of' + j * 3 + 1, none⟩ = some (.int .i64 y1) ∧ wx.cell? ⟨g', of' + j * 3 + 2, none⟩ = some (.slice z4 m4 d4)) := fun wx h => ⟨⟨h.c.1.2.2, h.c.2.2.2⟩, ⟨(h.below.cell (p := ⟨g, of + j * 3, none⟩) hgl).trans e0, (h.below.cell (p := ⟨g, of + j * 3 + 1, none⟩) hgl).trans e1, (h.below.cell (p := ⟨g, of + j * 3 + 2, none⟩) hgl).trans e2⟩, (h.below.cell (p := ⟨g', of' + j * 3, none⟩) hgl').trans f0, (h.below.cell (p := ⟨g', of' + j * 3 + 1, none⟩) hgl').trans f1, (h.below.cell (p := ⟨g', of' + j * 3 + 2, none⟩) hgl').trans f2⟩
        have HI' := Lib.hid (fun wx hx => HI.out ts[j] _ _ _ _ _ _ wx rk rk' hx)
        have j0 : (0 : Int) ≤ (j : Int) := by omega
        have j1 : (j : Int) < (ts.length : Int) := by omega
        clear e0 e1 e2 f0 f1 f2 hk2 hk2' HK HK' rk rk' HI HS
        go_wp2_with fail
        clear c0 c1 c2 d0 d1 d2
        go_region_held3 (fun wx => (wx.cell? ⟨w.heap.size, 2, none⟩ = some (.slice (some ⟨g, of, none⟩) ts.length cap) ∧ wx.cell? ⟨w.heap.size + 1, 2, none⟩ = some (.slice (some ⟨g', of', none⟩) ts.length cap')) ∧ (wx.cell? ⟨g, of + j * 3, none⟩ = some (.int .i64 u0) ∧ wx.cell? ⟨g, of + j * 3 + 1, none⟩ = some (.int .i64 u1) ∧ wx.cell? ⟨g, of + j * 3 + 2, none⟩ = some (.slice a4 n4 c4)) ∧ wx.cell? ⟨g', of' + j * 3, none⟩ = some (.int .i64 y0) ∧ wx.cell? ⟨g', of' + j * 3 + 1, none⟩ = some (.int .i64 y1) ∧ wx.cell? ⟨g', of' + j * 3 + 2, none⟩ = some (.slice z4 m4 d4)) (exact HX.out _ (by first | assumption | exact Tw.drew (by assumption))) ((go_at_call 22; refine (HI'.out _ (by first | assumption | exact Tw.drew (by assumption))).mono ?_; rintro e w1 ⟨rfl, b1⟩))
        all_goals go_wp2_with fail
        all_goals exact ⟨⟨j + 1, by go_num, by omega, by first | assumption | exact Tw.drew (by assumption)⟩, by simp [intOf]; omega⟩
      · have hje : j = ts.length := by omega
        go_wp2_with fail
        go_ret
        exact ⟨rfl, hb.below⟩
end Go.Proofs.YtokiaolgdkikiaaGreat
