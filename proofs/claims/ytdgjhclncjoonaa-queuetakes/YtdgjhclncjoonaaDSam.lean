/- The document's Same of two values with one tree: true; the condition: the trees in memory. -/
import Derived.Test.YtdgjhclncjoonaaXCut
namespace Go.Proofs.Ytdgjhclncjoonaa.Dt
open Go.RowKit
def T2 (w : World) (a0 a1 a2 a3 a4 b0 b1 b2 b3 b4 : Value) (w' : World) : Prop := Below (w.heap.size + 2) ((w.alloc (.cells #[a0, a1, a2, a3, a4] 28)).alloc (.cells #[b0, b1, b2, b3, b4] 28)) w'
theorem T2.drew {w : World} {a0 a1 a2 a3 a4 b0 b1 b2 b3 b4 : Value} {w' : World} (h : T2 w a0 a1 a2 a3 a4 b0 b1 b2 b3 b4 w') : T2 w a0 a1 a2 a3 a4 b0 b1 b2 b3 b4 w'.drew := Below.drew h
theorem T2.below {w : World} {a0 a1 a2 a3 a4 b0 b1 b2 b3 b4 : Value} {w' : World} (h : T2 w a0 a1 a2 a3 a4 b0 b1 b2 b3 b4 w') : Below w.heap.size w w' := (below2 w _ _).trans (Below.mono h (by omega))
theorem T2.step {w : World} {a0 a1 a2 a3 a4 b0 b1 b2 b3 b4 : Value} {w1 w2 : World} (h : T2 w a0 a1 a2 a3 a4 b0 b1 b2 b3 b4 w1) (hb : Below w1.heap.size w1 w2) : T2 w a0 a1 a2 a3 a4 b0 b1 b2 b3 b4 w2 := by
  have := Below.size h
  simp at this
  exact Below.trans h (hb.mono (by omega))
theorem T2.start (w : World) (a0 a1 a2 a3 a4 b0 b1 b2 b3 b4 : Value) : T2 w a0 a1 a2 a3 a4 b0 b1 b2 b3 b4 ((w.alloc (.cells #[a0, a1, a2, a3, a4] 28)).alloc (.cells #[b0, b1, b2, b3, b4] 28)) := Below.refl _ _
theorem T2.c {w : World} {a0 a1 a2 a3 a4 b0 b1 b2 b3 b4 : Value} {w' : World} (h : T2 w a0 a1 a2 a3 a4 b0 b1 b2 b3 b4 w') :
    (w'.cell? ⟨w.heap.size, 0, none⟩ = some (a0) ∧ w'.cell? ⟨w.heap.size, 1, none⟩ = some (a1) ∧ w'.cell? ⟨w.heap.size, 2, none⟩ = some (a2) ∧ w'.cell? ⟨w.heap.size, 3, none⟩ = some (a3) ∧ w'.cell? ⟨w.heap.size, 4, none⟩ = some (a4)) ∧ w'.cell? ⟨w.heap.size + 1, 0, none⟩ = some (b0) ∧ w'.cell? ⟨w.heap.size + 1, 1, none⟩ = some (b1) ∧ w'.cell? ⟨w.heap.size + 1, 2, none⟩ = some (b2) ∧ w'.cell? ⟨w.heap.size + 1, 3, none⟩ = some (b3) ∧ w'.cell? ⟨w.heap.size + 1, 4, none⟩ = some (b4) := by
  have e0 := heap_alloc_new w (.cells #[a0, a1, a2, a3, a4] 28)
  have e1 := heap_alloc_new (w.alloc (.cells #[a0, a1, a2, a3, a4] 28)) (.cells #[b0, b1, b2, b3, b4] 28)
  simp only [World.size_alloc] at e1
  have h0 : w'.heap[w.heap.size]? = some (.cells #[a0, a1, a2, a3, a4] 28 (0, 0)) := (Below.block h w.heap.size (by omega)).trans (((below1 _ _).block _ (by simp)).trans e0)
  have h1 : w'.heap[w.heap.size + 1]? = some (.cells #[b0, b1, b2, b3, b4] 28 (0, 0)) := (Below.block h (w.heap.size + 1) (by omega)).trans e1
  simp [World.cell?, h0, h1]

set_option maxRecDepth 100000 in
set_option maxHeartbeats 4000000 in
theorem sameD : ∀ (n : Nat) (t : Tr n) (v0 v1 v2 v3 v4 x0 x1 x2 x3 x4 : Value) (w : World), Rep w n [v0, v1, v2, v3, v4] t → Rep w n [x0, x1, x2, x3, x4] t →
    Calls Try.prog 28 #[.agg #[v0, v1, v2, v3, v4], .agg #[x0, x1, x2, x3, x4]] w fun e w' => e = .returned (.bool true) ∧ Below w.heap.size w w' := by
  intro n
  induction n with
  | zero => intro t; exact t.elim
  | succ n ih =>
    intro t v0 v1 v2 v3 v4 x0 x1 x2 x3 x4 w h h'
    obtain ⟨ad, cap, e, htx, hlen, hcap, hk⟩ := h
    simp only [List.cons.injEq, and_true] at e
    obtain ⟨rfl, rfl, rfl, rfl, rfl⟩ := e
    obtain ⟨ad', cap', e, htx', hlen', hcap', hk'⟩ := h'
    simp only [List.cons.injEq, and_true] at e
    obtain ⟨rfl, rfl, rfl, rfl, rfl⟩ := e
    have HK := Lib.hid hk
    have HK' := Lib.hid hk'
    have hb0 := T2.start w (.int .i64 t.kd) (.int .i64 t.it) (.int .u64 t.ut) (.string t.tx) (.slice ad t.ks.length cap) (.int .i64 t.kd) (.int .i64 t.it) (.int .u64 t.ut) (.string t.tx) (.slice ad' t.ks.length cap')
    have HI : Hid (∀ (s : Tr n) (a0 a1 a2 a3 a4 b0 b1 b2 b3 b4 : Value) (wx : World), Rep w n [a0, a1, a2, a3, a4] s → Rep w n [b0, b1, b2, b3, b4] s → T2 w (.int .i64 t.kd) (.int .i64 t.it) (.int .u64 t.ut) (.string t.tx) (.slice ad t.ks.length cap) (.int .i64 t.kd) (.int .i64 t.it) (.int .u64 t.ut) (.string t.tx) (.slice ad' t.ks.length cap') wx → Calls Try.prog 28 #[.agg #[a0, a1, a2, a3, a4], .agg #[b0, b1, b2, b3, b4]] wx fun e w' => e = .returned (.bool true) ∧ T2 w (.int .i64 t.kd) (.int .i64 t.it) (.int .u64 t.ut) (.string t.tx) (.slice ad t.ks.length cap) (.int .i64 t.kd) (.int .i64 t.it) (.int .u64 t.ut) (.string t.tx) (.slice ad' t.ks.length cap') w') := fun s a0 a1 a2 a3 a4 b0 b1 b2 b3 b4 wx ha hb hx => (ih s _ _ _ _ _ _ _ _ _ _ wx (Rep.below hx.below n _ _ ha) (Rep.below hx.below n _ _ hb)).mono fun e w' ⟨a, b⟩ => ⟨a, hx.step b⟩
    have HS : Hid (∀ wx, T2 w (.int .i64 t.kd) (.int .i64 t.it) (.int .u64 t.ut) (.string t.tx) (.slice ad t.ks.length cap) (.int .i64 t.kd) (.int .i64 t.it) (.int .u64 t.ut) (.string t.tx) (.slice ad' t.ks.length cap') wx → (wx.cell? ⟨w.heap.size, 0, none⟩ = some ((.int .i64 t.kd)) ∧ wx.cell? ⟨w.heap.size, 1, none⟩ = some ((.int .i64 t.it)) ∧ wx.cell? ⟨w.heap.size, 2, none⟩ = some ((.int .u64 t.ut)) ∧ wx.cell? ⟨w.heap.size, 3, none⟩ = some ((.string t.tx)) ∧ wx.cell? ⟨w.heap.size, 4, none⟩ = some ((.slice ad t.ks.length cap))) ∧ wx.cell? ⟨w.heap.size + 1, 0, none⟩ = some ((.int .i64 t.kd)) ∧ wx.cell? ⟨w.heap.size + 1, 1, none⟩ = some ((.int .i64 t.it)) ∧ wx.cell? ⟨w.heap.size + 1, 2, none⟩ = some ((.int .u64 t.ut)) ∧ wx.cell? ⟨w.heap.size + 1, 3, none⟩ = some ((.string t.tx)) ∧ wx.cell? ⟨w.heap.size + 1, 4, none⟩ = some ((.slice ad' t.ks.length cap'))) := fun wx h => h.c
    unfold maxLen at hcap hcap'
    clear ih hk hk'
    generalize t.kd = k at HS HI hb0 ⊢
    generalize t.it = i at HS HI hb0 ⊢
    generalize t.ut = u at HS HI hb0 ⊢
    generalize t.tx = s at HS HI hb0 ⊢
    generalize t.ks = ts at HS HI hb0 hlen hlen' HK HK' ⊢
    obtain ⟨⟨c0, c1, c2, c3, c4⟩, d0, d1, d2, d3, d4⟩ := HS.out _ hb0
    go_enter Try.func28, Try.ntmps28
    go_wp2_with fail
    clear c0 c1 c2 c3 c4 d0 d1 d2 d3 d4
    go_loopw [44] (fun si wr => ∃ (j : Nat), si = .int .i64 j ∧ j ≤ ts.length ∧ T2 w (.int .i64 k) (.int .i64 i) (.int .u64 u) (.string s) (.slice ad ts.length cap) (.int .i64 k) (.int .i64 i) (.int .u64 u) (.string s) (.slice ad' ts.length cap') wr) (fun si _ => ts.length - (intOf si).toNat)
    case atStart => exact ⟨0, rfl, Nat.zero_le _, hb0⟩
    case round =>
      obtain ⟨j, rfl, hj, hb⟩ := hrel
      obtain ⟨⟨c0, c1, c2, c3, c4⟩, d0, d1, d2, d3, d4⟩ := HS.out _ hb
      by_cases hlt : j < ts.length
      · have hne : ts ≠ [] := by intro e; rw [e] at hlt; exact absurd hlt (Nat.not_lt_zero _)
        rcases HK.out with hk | ⟨g, of, hk1, hk2⟩
        · exact absurd hk hne
        rcases HK'.out with hk | ⟨g', of', hk1', hk2'⟩
        · exact absurd hk hne
        subst hk1 hk1'
        obtain ⟨v0, v1, v2, v3, v4, e0, e1, e2, e3, e4, rk⟩ := hk2 j _ (List.getElem?_eq_getElem hlt)
        obtain ⟨x0, x1, x2, x3, x4, f0, f1, f2, f3, f4, rk'⟩ := hk2' j _ (List.getElem?_eq_getElem hlt)
        have hgl : g < w.heap.size := World.block_lt_of_cell? w _ e0
        have hgl' : g' < w.heap.size := World.block_lt_of_cell? w _ f0
        obtain ⟨u0, u1, u2, u3, u4, u5, u6, rfl, rfl, rfl, rfl, rfl⟩ := rep_shape rk
        obtain ⟨y0, y1, y2, y3, y4, y5, y6, rfl, rfl, rfl, rfl, rfl⟩ := rep_shape rk'
        have HX : Hid (∀ wx, T2 w (.int .i64 k) (.int .i64 i) (.int .u64 u) (.string s) (.slice (some ⟨g, of, none⟩) ts.length cap) (.int .i64 k) (.int .i64 i) (.int .u64 u) (.string s) (.slice (some ⟨g', of', none⟩) ts.length cap') wx → (wx.cell? ⟨w.heap.size, 4, none⟩ = some (.slice (some ⟨g, of, none⟩) ts.length cap) ∧ wx.cell? ⟨w.heap.size + 1, 4, none⟩ = some (.slice (some ⟨g', of', none⟩) ts.length cap')) ∧ (wx.cell? ⟨g, of + j * 5, none⟩ = some (.int .i64 u0) ∧ wx.cell? ⟨g, of + j * 5 + 1, none⟩ = some (.int .i64 u1) ∧ wx.cell? ⟨g, of + j * 5 + 2, none⟩ = some (.int .u64 u2) ∧ wx.cell? ⟨g, of + j * 5 + 3, none⟩ = some (.string u3) ∧ wx.cell? ⟨g, of + j * 5 + 4, none⟩ = some (.slice u4 u5 u6)) ∧ wx.cell? ⟨g', of' + j * 5, none⟩ = some (.int .i64 y0) ∧ wx.cell? ⟨g', of' + j * 5 + 1, none⟩ = some (.int .i64 y1) ∧ wx.cell? ⟨g', of' + j * 5 + 2, none⟩ = some (.int .u64 y2) ∧ wx.cell? ⟨g', of' + j * 5 + 3, none⟩ = some (.string y3) ∧ wx.cell? ⟨g', of' + j * 5 + 4, none⟩ = some (.slice y4 y5 y6)) := fun wx h => ⟨⟨h.c.1.2.2.2.2, h.c.2.2.2.2.2⟩, ⟨(h.below.cell (p := ⟨g, of + j * 5, none⟩) hgl).trans e0, (h.below.cell (p := ⟨g, of + j * 5 + 1, none⟩) hgl).trans e1, (h.below.cell (p := ⟨g, of + j * 5 + 2, none⟩) hgl).trans e2, (h.below.cell (p := ⟨g, of + j * 5 + 3, none⟩) hgl).trans e3, (h.below.cell (p := ⟨g, of + j * 5 + 4, none⟩) hgl).trans e4⟩, (h.below.cell (p := ⟨g', of' + j * 5, none⟩) hgl').trans f0, (h.below.cell (p := ⟨g', of' + j * 5 + 1, none⟩) hgl').trans f1, (h.below.cell (p := ⟨g', of' + j * 5 + 2, none⟩) hgl').trans f2, (h.below.cell (p := ⟨g', of' + j * 5 + 3, none⟩) hgl').trans f3, (h.below.cell (p := ⟨g', of' + j * 5 + 4, none⟩) hgl').trans f4⟩
        have HI' := Lib.hid (fun wx hx => HI.out ts[j] _ _ _ _ _ _ _ _ _ _ wx rk rk' hx)
        have j0 : (0 : Int) ≤ (j : Int) := by omega
        have j1 : (j : Int) < (ts.length : Int) := by omega
        clear e0 e1 e2 e3 e4 f0 f1 f2 f3 f4 hk2 hk2' HK HK' rk rk' HI HS
        go_wp2_with fail
        clear c0 c1 c2 c3 c4 d0 d1 d2 d3 d4
        go_region_held3 (fun wx => (wx.cell? ⟨w.heap.size, 4, none⟩ = some (.slice (some ⟨g, of, none⟩) ts.length cap) ∧ wx.cell? ⟨w.heap.size + 1, 4, none⟩ = some (.slice (some ⟨g', of', none⟩) ts.length cap')) ∧ (wx.cell? ⟨g, of + j * 5, none⟩ = some (.int .i64 u0) ∧ wx.cell? ⟨g, of + j * 5 + 1, none⟩ = some (.int .i64 u1) ∧ wx.cell? ⟨g, of + j * 5 + 2, none⟩ = some (.int .u64 u2) ∧ wx.cell? ⟨g, of + j * 5 + 3, none⟩ = some (.string u3) ∧ wx.cell? ⟨g, of + j * 5 + 4, none⟩ = some (.slice u4 u5 u6)) ∧ wx.cell? ⟨g', of' + j * 5, none⟩ = some (.int .i64 y0) ∧ wx.cell? ⟨g', of' + j * 5 + 1, none⟩ = some (.int .i64 y1) ∧ wx.cell? ⟨g', of' + j * 5 + 2, none⟩ = some (.int .u64 y2) ∧ wx.cell? ⟨g', of' + j * 5 + 3, none⟩ = some (.string y3) ∧ wx.cell? ⟨g', of' + j * 5 + 4, none⟩ = some (.slice y4 y5 y6)) (exact HX.out _ (by first | assumption | exact T2.drew (by assumption))) ((go_at_call 28; refine (HI'.out _ (by first | assumption | exact T2.drew (by assumption))).mono ?_; rintro e w1 ⟨rfl, b1⟩))
        all_goals go_wp2_with fail
        all_goals exact ⟨⟨j + 1, by go_num, by omega, by first | assumption | exact T2.drew (by assumption)⟩, by simp [intOf]; omega⟩
      · have hje : j = ts.length := by omega
        go_wp2_with fail
        go_ret
        exact ⟨rfl, hb.below⟩
end Go.Proofs.Ytdgjhclncjoonaa.Dt
