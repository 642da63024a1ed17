/- The document's Same of two values with one tree: true; the condition: the trees in memory. -/
import Derived.Test.YthamafijjflfbaaGreatJaj
import Derived.Test.YthamafijjflfbaaGreatJaa
namespace Go.Proofs.YthamafijjflfbaaGreat.Dt
open Go.RowKit
def T2 (w : World) (a0 a1 a2 a3 a4 b0 b1 b2 b3 b4 : Value) (w' : World) : Prop := Below (w.heap.size + 2) ((w.alloc (.cells #[a0, a1, a2, a3, a4] 25)).alloc (.cells #[b0, b1, b2, b3, b4] 25)) w'
theorem T2.drew {w : World} {a0 a1 a2 a3 a4 b0 b1 b2 b3 b4 : Value} {w' : World} (h : T2 w a0 a1 a2 a3 a4 b0 b1 b2 b3 b4 w') : T2 w a0 a1 a2 a3 a4 b0 b1 b2 b3 b4 w'.drew := Below.drew h
theorem T2.below {w : World} {a0 a1 a2 a3 a4 b0 b1 b2 b3 b4 : Value} {w' : World} (h : T2 w a0 a1 a2 a3 a4 b0 b1 b2 b3 b4 w') : Below w.heap.size w w' := (below2 w _ _).trans (Below.mono h (by omega))
theorem T2.step {w : World} {a0 a1 a2 a3 a4 b0 b1 b2 b3 b4 : Value} {w1 w2 : World} (h : T2 w a0 a1 a2 a3 a4 b0 b1 b2 b3 b4 w1) (hb : Below w1.heap.size w1 w2) : T2 w a0 a1 a2 a3 a4 b0 b1 b2 b3 b4 w2 := by
  have := Below.size h
  simp at this
  exact Below.trans h (hb.mono (by omega))
theorem T2.start (w : World) (a0 a1 a2 a3 a4 b0 b1 b2 b3 b4 : Value) : T2 w a0 a1 a2 a3 a4 b0 b1 b2 b3 b4 ((w.alloc (.cells #[a0, a1, a2, a3, a4] 25)).alloc (.cells #[b0, b1, b2, b3, b4] 25)) := Below.refl _ _
theorem T2.c {w : World} {a0 a1 a2 a3 a4 b0 b1 b2 b3 b4 : Value} {w' : World} (h : T2 w a0 a1 a2 a3 a4 b0 b1 b2 b3 b4 w') :
    (w'.cell? ⟨w.heap.size, 0, none⟩ = some (a0) ∧ w'.cell? ⟨w.heap.size, 1, none⟩ = some (a1) ∧ w'.cell? ⟨w.heap.size, 2, none⟩ = some (a2) ∧ w'.cell? ⟨w.heap.size, 3, none⟩ = some (a3) ∧ w'.cell? ⟨w.heap.size, 4, none⟩ = some (a4)) ∧ w'.cell? ⟨w.heap.size + 1, 0, none⟩ = some (b0) ∧ w'.cell? ⟨w.heap.size + 1, 1, none⟩ = some (b1) ∧ w'.cell? ⟨w.heap.size + 1, 2, none⟩ = some (b2) ∧ w'.cell? ⟨w.heap.size + 1, 3, none⟩ = some (b3) ∧ w'.cell? ⟨w.heap.size + 1, 4, none⟩ = some (b4) := by
  have e0 := heap_alloc_new w (.cells #[a0, a1, a2, a3, a4] 25)
  have e1 := heap_alloc_new (w.alloc (.cells #[a0, a1, a2, a3, a4] 25)) (.cells #[b0, b1, b2, b3, b4] 25)
  simp only [World.size_alloc] at e1
  have h0 : w'.heap[w.heap.size]? = some (.cells #[a0, a1, a2, a3, a4] 25 (0, 0)) := (Below.block h w.heap.size (by omega)).trans (((below1 _ _).block _ (by simp)).trans e0)
  have h1 : w'.heap[w.heap.size + 1]? = some (.cells #[b0, b1, b2, b3, b4] 25 (0, 0)) := (Below.block h (w.heap.size + 1) (by omega)).trans e1
  simp [World.cell?, h0, h1]

set_option maxRecDepth 100000 in
set_option maxHeartbeats 4000000 in
theorem sameD : ∀ (n : Nat) (t : Tr n) (v0 v1 v2 v3 v4 x0 x1 x2 x3 x4 : Value) (w : World), Rep w n [v0, v1, v2, v3, v4] t → Rep w n [x0, x1, x2, x3, x4] t →
    Calls Tryz.prog 13 #[.agg #[v0, v1, v2, v3, v4], .agg #[x0, x1, x2, x3, x4]] w fun e w' => e = .returned (.bool true) ∧ Below w.heap.size w w' := by
  intro n
  induction n with
  | zero => intro t; exact t.elim
  | succ n ih =>
    intro t v0 v1 v2 v3 v4 x0 x1 x2 x3 x4 w h h'
    obtain ⟨ad, cap, e, htx, hlen, hcap, hk⟩ := h
    simp only [List.cons.injEq, and_true] at e
    obtain ⟨rfl, rfl, rfl, rfl, rfl⟩ := e
    obtain ⟨ad', cap', e, htx', hlen', hcap', hk'⟩ := h'
    simp only [List.cons.injEq, and_true] at e
    obtain ⟨rfl, rfl, rfl, rfl, rfl⟩ := e
    have HK := Lib.hid hk
    have HK' := Lib.hid hk'
    have hb0 := T2.start w (.int .i64 t.kd) (.int .i64 t.it) (.int .u64 t.ut) (.string t.tx) (.slice ad t.ks.length cap) (.int .i64 t.kd) (.int .i64 t.it) (.int .u64 t.ut) (.string t.tx) (.slice ad' t.ks.length cap')
    have HI : Hid (∀ (s : Tr n) (a0 a1 a2 a3 a4 b0 b1 b2 b3 b4 : Value) (wx : World), Rep w n [a0, a1, a2, a3, a4] s → Rep w n [b0, b1, b2, b3, b4] s → T2 w (.int .i64 t.kd) (.int .i64 t.it) (.int .u64 t.ut) (.string t.tx) (.slice ad t.ks.length cap) (.int .i64 t.kd) (.int .i64 t.it) (.int .u64 t.ut) (.string t.tx) (.slice ad' t.ks.length cap') wx → Calls Tryz.prog 13 #[.agg #[a0, a1, a2, a3, a4], .agg #[b0, b1, b2, b3, b4]] wx fun e w' => e = .returned (.bool true) ∧ T2 w (.int .i64 t.kd) (.int .i64 t.it) (.int .u64 t.ut) (.string t.tx) (.slice ad t.ks.length cap) (.int .i64 t.kd) (.int .i64 t.it) (.int .u64 t.ut) (.string t.tx) (.slice ad' t.ks.length cap') w') := fun s a0 a1 a2 a3 a4 b0 b1 b2 b3 b4 wx ha hb hx => (ih s _ _ _ _ _ _ _ _ _ _ wx (Rep.below hx.below n _ _ ha) (Rep.below hx.below n _ _ hb)).mono fun e w' ⟨a, b⟩ => ⟨a, hx.step b⟩
    have HS : Hid (∀ wx, T2 w (.int .i64 t.kd) (.int .i64 t.it) (.int .u64 t.ut) (.string t.tx) (.slice ad t.ks.length cap) (.int .i64 t.kd) (.int .i64 t.it) (.int .u64 t.ut) (.string t.tx) (.slice ad' t.ks.length cap') wx → (wx.cell? ⟨w.heap.size, 0, none⟩ = some ((.int .i64 t.kd)) ∧ wx.cell? ⟨w.heap.size, 1, none⟩ = some ((.int .i64 t.it)) ∧ wx.cell? ⟨w.heap.size, 2, none⟩ = some ((.int .u64 t.ut)) ∧ wx.cell? ⟨w.heap.size, 3, none⟩ = some ((.string t.tx)) ∧ wx.cell? ⟨w.heap.size, 4, none⟩ = some ((.slice ad t.ks.length cap))) ∧ wx.cell? ⟨w.heap.size + 1, 0, none⟩ = some ((.int .i64 t.kd)) ∧ wx.cell? ⟨w.heap.size + 1, 1, none⟩ = some ((.int .i64 t.it)) ∧ wx.cell? ⟨w.heap.size + 1, 2, none⟩ = some ((.int .u64 t.ut)) ∧ wx.cell? ⟨w.heap.size + 1, 3, none⟩ = some ((.string t.tx)) ∧ wx.cell? ⟨w.heap.size + 1, 4, none⟩ = some ((.slice ad' t.ks.length cap'))) := fun wx h => h.c
    unfold maxLen at hcap hcap'
    clear ih hk hk'
    generalize t.kd = k at HS HI hb0 ⊢
    generalize t.it = i at HS HI hb0 ⊢
    generalize t.ut = u at HS HI hb0 ⊢
    generalize t.tx = s at HS HI hb0 ⊢
    generalize t.ks = ts at HS HI hb0 hlen hlen' HK HK' ⊢
    obtain ⟨⟨c0, c1, c2, c3, c4⟩, d0, d1, d2, d3, d4⟩ := HS.out _ hb0
    go_enter Tryz.func13, Tryz.ntmps13
    go_wp2_with fail
    clear c0 c1 c2 c3 c4 d0 d1 d2 d3 d4
    go_loopw [44] (fun si wr => ∃ (j : Nat), si = .int .i64 j ∧ j ≤ ts.length ∧ T2 w (.int .i64 k) (.int .i64 i) (.int .u64 u) (.string s) (.slice ad ts.length cap) (.int .i64 k) (.int .i64 i) (.int .u64 u) (.string s) (.slice ad' ts.length cap') wr) (fun si _ => ts.length - (intOf si).toNat)
    case atStart => exact ⟨0, rfl, Nat.zero_le _, hb0⟩
    case round =>
      obtain ⟨j, rfl, hj, hb⟩ := hrel
      obtain ⟨⟨c0, c1, c2, c3, c4⟩, d0, d1, d2, d3, d4⟩ := HS.out _ hb
      by_cases hlt : j < ts.length
      · have hne : ts ≠ [] := by intro e; rw [e] at hlt; exact absurd hlt (Nat.not_lt_zero _)
        rcases HK.out with hk | ⟨g, of, hk1, hk2⟩
        · exact absurd hk hne
        rcases HK'.out with hk | ⟨g', of', hk1', hk2'⟩
        · exact absurd hk hne
        subst hk1 hk1'
        obtain ⟨v0, v1, v2, v3, v4, e0, e1, e2, e3, e4, rk⟩ := hk2 j _ (List.getElem?_eq_getElem hlt)
        obtain ⟨x0, x1, x2, x3, x4, f0, f1, f2, f3, f4, rk'⟩ := hk2' j _ (List.getElem?_eq_getElem hlt)
        have hgl : g < w.heap.size := World.block_lt_of_cell? w _ e0
        have hgl' : g' < w.heap.size := World.block_lt_of_cell? w _ f0
        obtain ⟨u0, u1, u2, u3, u4, u5, u6, rfl, rfl, rfl, rfl, rfl⟩ := rep_shape rk
        obtain ⟨y0, y1, y2, y3, y4, y5, y6, rfl, rfl, rfl, rfl, rfl⟩ := rep_shape rk'
        have HX : Hid (∀ wx, T2 w (.int .i64 k) (.int .i64 i) (.int .u64 u) (.string s) (.slice (some ⟨g, of, none⟩) ts.length cap) (.int .i64 k) (.int .i64 i) (.int .u64 u) (.string s) (.slice (some ⟨g', of', none⟩) ts.length cap') wx → (wx.cell? ⟨w.heap.size, 4, none⟩ = some (.slice (some ⟨g, of, none⟩) ts.length cap) ∧ wx.cell? ⟨w.heap.size + 1, 4, none⟩ = some (.slice (some ⟨g', of', none⟩) ts.length cap')) ∧ (wx.cell? ⟨g, of + j * 5, none⟩ = some (.int .i64 u0) ∧ wx.cell? ⟨g, of + j * 5 + 1, none⟩ = some (.int .i64 u1) ∧ wx.cell? ⟨g, of + j * 5 + 2, none⟩ = some (.int .u64 u2) ∧ wx.cell? ⟨g, of + j * 5 + 3, none⟩ = some (.string u3) ∧ wx.cell? ⟨g, of + j * 5 + 4, none⟩ = some (.slice u4 u5 u6)) ∧ wx.cell? ⟨g', of' + j * 5, none⟩ = some (.int .i64 y0) ∧ wx.cell? ⟨g', of' + j * 5 + 1, none⟩ = some (.int .i64 y1) ∧ wx.cell? ⟨g', of' + j * 5 + 2, none⟩ = some (.int .u64 y2) ∧ wx.cell? ⟨g', of' + j * 5 + 3, none⟩ = some (.string y3) ∧ wx.cell? ⟨g', of' + j * 5 + 4, none⟩ = some (.slice y4 y5 y6)) := fun wx h => ⟨⟨h.c.1.2.2.2.2, h.c.2.2.2.2.2⟩, ⟨(h.below.cell (p := ⟨g, of + j * 5, none⟩) hgl).trans e0, (h.below.cell (p := ⟨g, of + j * 5 + 1, none⟩) hgl).trans e1, (h.below.cell (p := ⟨g, of + j * 5 + 2, none⟩) hgl).trans e2, (h.below.cell (p := ⟨g, of + j * 5 + 3, none⟩) hgl).trans e3, (h.below.cell (p := ⟨g, of + j * 5 + 4, none⟩) hgl).trans e4⟩, (h.below.cell (p := ⟨g', of' + j * 5, none⟩) hgl').trans f0, (h.below.cell (p := ⟨g', of' + j * 5 + 1, none⟩) hgl').trans f1, (h.below.cell (p := ⟨g', of' + j * 5 + 2, none⟩) hgl').trans f2, (h.below.cell (p := ⟨g', of' + j * 5 + 3, none⟩) hgl').trans f3, (h.below.cell (p := ⟨g', of' + j * 5 + 4, none⟩) hgl').trans f4⟩
        have HI' := Lib.hid (fun wx hx => HI.out ts[j] _ _ _ _ _ _ _ _ _ _ wx rk rk' hx)
        have j0 : (0 : Int) ≤ (j : Int) := by omega
        have j1 : (j : Int) < (ts.length : Int) := by omega
        clear e0 e1 e2 e3 e4 f0 f1 f2 f3 f4 hk2 hk2' HK HK' rk rk' HI HS
        go_wp2_with fail
        clear c0 c1 c2 c3 c4 d0 d1 d2 d3 d4
        go_region_held3 (fun wx => (wx.cell? ⟨w.heap.size, 4, none⟩ = some (.slice (some ⟨g, of, none⟩) ts.length cap) ∧ wx.cell? ⟨w.heap.size + 1, 4, none⟩ = some (.slice (some ⟨g', of', none⟩) ts.length cap')) ∧ (wx.cell? ⟨g, of + j * 5, none⟩ = some (.int .i64 u0) ∧ wx.cell? ⟨g, of + j * 5 + 1, none⟩ = some (.int .i64 u1) ∧ wx.cell? ⟨g, of + j * 5 + 2, none⟩ = some (.int .u64 u2) ∧ wx.cell? ⟨g, of + j * 5 + 3, none⟩ = some (.string u3) ∧ wx.cell? ⟨g, of + j * 5 + 4, none⟩ = some (.slice u4 u5 u6)) ∧ wx.cell? ⟨g', of' + j * 5, none⟩ = some (.int .i64 y0) ∧ wx.cell? ⟨g', of' + j * 5 + 1, none⟩ = some (.int .i64 y1) ∧ wx.cell? ⟨g', of' + j * 5 + 2, none⟩ = some (.int .u64 y2) ∧ wx.cell? ⟨g', of' + j * 5 + 3, none⟩ = some (.string y3) ∧ wx.cell? ⟨g', of' + j * 5 + 4, none⟩ = some (.slice y4 y5 y6)) (exact HX.out _ (by first | assumption | exact T2.drew (by assumption))) ((go_at_call 13; refine (HI'.out _ (by first | assumption | exact T2.drew (by assumption))).mono ?_; rintro e w1 ⟨rfl, b1⟩))
        all_goals go_wp2_with fail
        all_goals exact ⟨⟨j + 1, by go_num, by omega, by first | assumption | exact T2.drew (by assumption)⟩, by simp [intOf]; omega⟩
      · have hje : j = ts.length := by omega
        go_wp2_with fail
        go_ret
        exact ⟨rfl, hb.below⟩
end Go.Proofs.YthamafijjflfbaaGreat.Dt
/- What each question of the package answers of a value of kind k: of a type whether the kind has it, of an interface whether the kind has all its methods; no condition. -/
namespace Go.Proofs.YthamafijjflfbaaGreat
open Go.RowKit

/-- The question that function f asks answers p of a kind. -/
def Asks (f : Nat) (p : Int → Bool) : Prop := ∀ (k : Int) (u : Value) (w : World), Kd k u → Calls Tryz.prog f #[.agg #[], u] w fun e w' => e = .returned (.bool (p k)) ∧ Below w.heap.size w w'

theorem kd_no {k : Int} (h : k < 1 ∨ 13 < k) (j : Int) (h1 : 1 ≤ j) (h2 : j ≤ 13) : (k == j) = false := by simp; omega
theorem impl_no {k : Int} (h : k < 1 ∨ 13 < k) (f : Int) : impl k f = false := by
  unfold impl
  by_cases h0 : 0 < k
  · have : ¬ k < 14 := by omega
    simp [this]
  · simp [h0]

set_option maxRecDepth 100000 in
set_option maxHeartbeats 1000000 in
theorem type12_walk (u : Value) (b : Bool) (w : World) (h : ∀ w, (binOp .eql 20 u (.iface 141 (.pointer none))).run Tryz.prog w = .ok (.bool b) w) (hg : ∀ w, (eqGuard .eql 20 (.tmp 5) (.tmp 6) u (.iface 141 (.pointer none))).run Tryz.prog w = .ok () w) :
    Calls Tryz.prog 143 #[.agg #[], u] w fun e w' => e = .returned (.bool b) ∧ Below w.heap.size w w' := by
  go_enter Tryz.func143, Tryz.ntmps143
  go_wp2
  go_ret
  exact ⟨rfl, below1 w _⟩
theorem type12_asks : Asks 143 (fun k => k == 12) := by
  intro k u w hk
  rcases hk.cases with ⟨h0, rfl⟩ | ⟨rfl, a, rfl⟩ | ⟨rfl, a, rfl⟩ | ⟨rfl, a, rfl⟩ | ⟨rfl, a, rfl⟩ | ⟨rfl, a, rfl⟩ | ⟨rfl, a, rfl⟩ | ⟨rfl, a, rfl⟩ | ⟨rfl, a, rfl⟩ | ⟨rfl, a, b, rfl, ha, hb⟩ | ⟨rfl, c, a, rfl⟩ | ⟨rfl, a, rfl⟩ | ⟨rfl, rfl⟩ | ⟨rfl, rfl⟩
  · simp only [kd_no h0 12 (by decide) (by decide)]; exact type12_walk _ false w (fun w => by kernel_rfl) (fun w => by kernel_rfl)
  · exact type12_walk _ false w (fun w => run_eql_iface_types _ _ _ _ Tryz.underlying20 (by decide) w) (fun w => by kernel_rfl)
  · exact type12_walk _ false w (fun w => run_eql_iface_types _ _ _ _ Tryz.underlying20 (by decide) w) (fun w => by kernel_rfl)
  · exact type12_walk _ false w (fun w => run_eql_iface_types _ _ _ _ Tryz.underlying20 (by decide) w) (fun w => by kernel_rfl)
  · exact type12_walk _ false w (fun w => run_eql_iface_types _ _ _ _ Tryz.underlying20 (by decide) w) (fun w => by kernel_rfl)
  · exact type12_walk _ false w (fun w => run_eql_iface_types _ _ _ _ Tryz.underlying20 (by decide) w) (fun w => by kernel_rfl)
  · exact type12_walk _ false w (fun w => run_eql_iface_types _ _ _ _ Tryz.underlying20 (by decide) w) (fun w => by kernel_rfl)
  · exact type12_walk _ false w (fun w => run_eql_iface_types _ _ _ _ Tryz.underlying20 (by decide) w) (fun w => by kernel_rfl)
  · exact type12_walk _ false w (fun w => run_eql_iface_types _ _ _ _ Tryz.underlying20 (by decide) w) (fun w => by kernel_rfl)
  · exact type12_walk _ false w (fun w => run_eql_iface_types _ _ _ _ Tryz.underlying20 (by decide) w) (fun w => by kernel_rfl)
  · exact type12_walk _ false w (fun w => run_eql_iface_types _ _ _ _ Tryz.underlying20 (by decide) w) (fun w => by kernel_rfl)
  · exact type12_walk _ false w (fun w => by kernel_rfl) (fun w => by kernel_rfl)
  · exact type12_walk _ true w (fun w => by kernel_rfl) (fun w => by kernel_rfl)
  · exact type12_walk _ false w (fun w => run_eql_iface_types _ _ _ _ Tryz.underlying20 (by decide) w) (fun w => by kernel_rfl)
end Go.Proofs.YthamafijjflfbaaGreat
/- What the inner package makes of a kind alone: an interface value of that kind, in new memory; no condition. -/
namespace Go.Proofs.YthamafijjflfbaaGreat
open Go.RowKit

/-- What is asked of one kind. -/
def KindOf (k : Int) (w : World) : Prop := Calls Tryz.prog 63 #[.agg #[.map none], .agg #[.int .i64 k, .int .i64 0, .int .u64 0, .string ⟨#[]⟩, .slice none 0 0]] w fun e w' => ∃ u, e = .returned u ∧ Kd k u ∧ Below w.heap.size w w'

set_option maxRecDepth 100000 in
set_option maxHeartbeats 1000000 in
theorem kind1 (w : World) : KindOf 1 w := by
  unfold KindOf
  go_enter Tryz.func63, Tryz.ntmps63
  go_wp2
  go_ret
  exact ⟨_, rfl, Kd.plain 1 _ (by decide) (by decide), below2 w _ _⟩

set_option maxRecDepth 100000 in
set_option maxHeartbeats 1000000 in
theorem kind2 (w : World) : KindOf 2 w := by
  unfold KindOf
  go_enter Tryz.func63, Tryz.ntmps63
  go_wp2
  go_ret
  exact ⟨_, rfl, Kd.plain 2 _ (by decide) (by decide), below2 w _ _⟩

set_option maxRecDepth 100000 in
set_option maxHeartbeats 1000000 in
theorem kind4 (w : World) : KindOf 4 w := by
  unfold KindOf
  go_enter Tryz.func63, Tryz.ntmps63
  go_wp2
  go_ret
  exact ⟨_, rfl, Kd.plain 4 _ (by decide) (by decide), below2 w _ _⟩

set_option maxRecDepth 100000 in
set_option maxHeartbeats 1000000 in
theorem kind5 (w : World) : KindOf 5 w := by
  unfold KindOf
  go_enter Tryz.func63, Tryz.ntmps63
  go_wp2
  go_ret
  exact ⟨_, rfl, Kd.plain 5 _ (by decide) (by decide), below2 w _ _⟩

set_option maxRecDepth 100000 in
set_option maxHeartbeats 1000000 in
theorem kind6 (w : World) : KindOf 6 w := by
  unfold KindOf
  go_enter Tryz.func63, Tryz.ntmps63
  go_wp2
  go_ret
  exact ⟨_, rfl, Kd.plain 6 _ (by decide) (by decide), below2 w _ _⟩

set_option maxRecDepth 100000 in
set_option maxHeartbeats 1000000 in
theorem kind10 (w : World) : KindOf 10 w := by
  unfold KindOf
  go_enter Tryz.func63, Tryz.ntmps63
  go_wp2
  go_ret
  exact ⟨_, rfl, Kd.fail _ _, below2 w _ _⟩

set_option maxRecDepth 100000 in
set_option maxHeartbeats 1000000 in
theorem kind13 (w : World) : KindOf 13 w := by
  unfold KindOf
  go_enter Tryz.func63, Tryz.ntmps63
  go_wp2
  go_ret
  exact ⟨_, rfl, Kd.unit, below2 w _ _⟩

set_option maxRecDepth 100000 in
set_option maxHeartbeats 1000000 in
theorem kind12 (w : World) : KindOf 12 w := by
  unfold KindOf
  go_enter Tryz.func63, Tryz.ntmps63
  go_wp2
  go_ret
  exact ⟨_, rfl, Kd.nilp, below2 w _ _⟩

set_option maxRecDepth 100000 in
set_option maxHeartbeats 1000000 in
theorem kind3 (w : World) : KindOf 3 w := by
  unfold KindOf
  have hf : ∀ w : World, (callFunc 49 #[.int .u64 0]).run Tryz.prog w = .ok (.value (.float .f64 0)) w := fun _ => by kernel_rfl
  go_enter Tryz.func63, Tryz.ntmps63
  go_wp2
  go_ret
  exact ⟨_, rfl, Kd.plain 3 _ (by decide) (by decide), below2 w _ _⟩

set_option maxRecDepth 100000 in
set_option maxHeartbeats 1000000 in
theorem kind7 (w : World) : KindOf 7 w := by
  unfold KindOf
  have hc := fun w : World => Lib.run_convert_string_bytes (P := Tryz.prog) w 9 135 5 ⟨#[]⟩ Tryz.underlying9 Tryz.underlying135 Tryz.underlying5
  go_enter Tryz.func63, Tryz.ntmps63
  go_wp2
  go_ret
  exact ⟨_, rfl, Kd.plain 7 _ (by decide) (by decide), (below2 w _ _).trans ((Lib.bytesWorld_below _ 5 _).mono (by simp; omega))⟩

set_option maxRecDepth 100000 in
set_option maxHeartbeats 1000000 in
theorem row0 (w : World) : Calls Tryz.prog 81 #[.agg #[.map none], .slice none 0 0] w fun e w' => ∃ v, e = .returned v ∧ Below w.heap.size w w' := by
  have hmk : ∀ w : World, (Instr.makeSlice 137 (.int .i64 0) (.int .i64 0)).run Tryz.prog w = .ok (.slice (some ⟨w.heap.size, 0, none⟩) 0 0) (w.alloc (.cells #[] 20)) := fun _ => by kernel_rfl
  go_enter Tryz.func81, Tryz.ntmps81
  go_wp2_with fail
  refine wp_loop_rounds 1 ?_
  rw [rounds_succ]
  go_wp2
  go_ret
  exact ⟨_, rfl, below2 w _ _⟩
set_option maxRecDepth 100000 in
set_option maxHeartbeats 1000000 in
theorem kind8 (w : World) : KindOf 8 w := by
  unfold KindOf
  go_enter Tryz.func63, Tryz.ntmps63
  go_wp2_with fail
  refine (row0 _).mono ?_
  rintro e w1 ⟨v, rfl, b1⟩
  go_wp2
  go_ret
  exact ⟨_, rfl, Kd.plain 8 _ (by decide) (by decide), (below2 w _ _).trans (b1.mono (by simp; omega))⟩

set_option maxRecDepth 100000 in
set_option maxHeartbeats 1000000 in
theorem kindNo (k : Int) (w : World) (h : k < 1 ∨ 13 < k) : KindOf k w := by
  unfold KindOf
  have hk : Kd k .nilIface := .inl ⟨h, rfl⟩
  have h1 : (k == 1) = false := by simp; omega
  have h2 : (k == 2) = false := by simp; omega
  have h3 : (k == 3) = false := by simp; omega
  have h4 : (k == 4) = false := by simp; omega
  have h5 : (k == 5) = false := by simp; omega
  have h6 : (k == 6) = false := by simp; omega
  have h7 : (k == 7) = false := by simp; omega
  have h8 : (k == 8) = false := by simp; omega
  have h9 : (k == 9) = false := by simp; omega
  have h10 : (k == 10) = false := by simp; omega
  have h11 : (k == 11) = false := by simp; omega
  have h12 : (k == 12) = false := by simp; omega
  have h13 : (k == 13) = false := by simp; omega
  clear h
  go_enter Tryz.func63, Tryz.ntmps63
  go_wp2
  go_ret
  exact ⟨_, rfl, hk, below2 w _ _⟩

set_option maxRecDepth 100000 in
set_option maxHeartbeats 1000000 in
theorem place0 (i : Int) (hi : 0 ≤ i) (w : World) : Calls Tryz.prog 82 #[.agg #[.map none], .slice none 0 0, .int .i64 i] w fun e w' => e = .returned .nilIface ∧ w' = w.alloc (.cells #[.map none] 107) := by
  go_enter Tryz.func82, Tryz.ntmps82
  go_wp2
  go_ret
  exact ⟨rfl, rfl⟩

set_option maxRecDepth 100000 in
set_option maxHeartbeats 4000000 in
theorem kind9 (w : World) : KindOf 9 w := by
  unfold KindOf
  go_enter Tryz.func63, Tryz.ntmps63
  go_wp2_with fail
  go_region_held3 (fun w' => w'.cell? ⟨w.heap.size, 0, none⟩ = some (.map none) ∧ w'.cell? ⟨w.heap.size + 1, 4, none⟩ = some (.slice none 0 0)) (go_keep) ((go_at_call 82; refine (place0 _ (by decide) _).mono ?_; rintro e w' ⟨rfl, rfl⟩))
  all_goals go_wp2
  all_goals go_ret
  all_goals refine ⟨_, rfl, Kd.pair _ _ (.inl rfl) (.inl rfl), ?_⟩
  all_goals exact (((((Below.refl _ w).alloc (Nat.le_refl _) _).alloc (by simp) _).alloc (by simp; omega) _).alloc (by simp; omega) _).drew

set_option maxRecDepth 100000 in
set_option maxHeartbeats 1000000 in
theorem pointer0 (w : World) : Calls Tryz.prog 83 #[.agg #[.map none], .agg #[.int .i64 11, .int .i64 0, .int .u64 0, .string ⟨#[]⟩, .slice none 0 0]] w fun e w' => ∃ a, e = .returned (.pointer (some a)) ∧ Below w.heap.size w w' := by
  have hmn := fun w : World => run_eql_map_nil (P := Tryz.prog) w 105 _ _ none Tryz.underlying105
  go_enter Tryz.func83, Tryz.ntmps83
  go_wp2_with fail
  go_region_held3 (fun w' => w'.cell? ⟨w.heap.size, 0, none⟩ = some (.map none) ∧ w'.cell? ⟨w.heap.size + 1, 1, none⟩ = some (.int .i64 0) ∧ w'.cell? ⟨w.heap.size + 1, 4, none⟩ = some (.slice none 0 0)) (go_keep) ((go_at_call 82; refine (place0 _ (by decide) _).mono ?_; rintro e w' ⟨rfl, rfl⟩))
  all_goals go_wp2
  all_goals go_ret
  all_goals refine ⟨_, rfl, ?_⟩
  all_goals exact (((((Below.refl _ w).alloc (Nat.le_refl _) _).alloc (by simp) _).alloc (by simp; omega) _).alloc (by simp; omega) _).drew

set_option maxRecDepth 100000 in
set_option maxHeartbeats 1000000 in
theorem kind11 (w : World) : KindOf 11 w := by
  unfold KindOf
  go_enter Tryz.func63, Tryz.ntmps63
  go_wp2_with fail
  refine (pointer0 _).mono ?_
  rintro e w1 ⟨a, rfl, b1⟩
  go_wp2
  go_ret
  exact ⟨_, rfl, Kd.ptr a, (below2 w _ _).trans (b1.mono (by simp; omega))⟩

theorem kind_any (k : Int) (w : World) : KindOf k w := by
  by_cases h : k < 1 ∨ 13 < k
  · exact kindNo k w h
  have hk : k = 1 ∨ k = 2 ∨ k = 3 ∨ k = 4 ∨ k = 5 ∨ k = 6 ∨ k = 7 ∨ k = 8 ∨ k = 9 ∨ k = 10 ∨ k = 11 ∨ k = 12 ∨ k = 13 := by omega
  rcases hk with rfl | rfl | rfl | rfl | rfl | rfl | rfl | rfl | rfl | rfl | rfl | rfl | rfl
  · exact kind1 w
  · exact kind2 w
  · exact kind3 w
  · exact kind4 w
  · exact kind5 w
  · exact kind6 w
  · exact kind7 w
  · exact kind8 w
  · exact kind9 w
  · exact kind10 w
  · exact kind11 w
  · exact kind12 w
  · exact kind13 w

set_option maxRecDepth 100000 in
set_option maxHeartbeats 1000000 in
theorem of_kind (k : Int) (w : World) : Calls Tryz.prog 58 #[.agg #[.int .i64 k, .int .i64 0, .int .u64 0, .string ⟨#[]⟩, .slice none 0 0]] w fun e w' => ∃ u, e = .returned u ∧ Kd k u ∧ Below w.heap.size w w' := by
  have H := Lib.hid (kind_any k)
  go_enter Tryz.func58, Tryz.ntmps58
  go_wp2_with fail
  refine (H.out _).mono ?_
  rintro e w1 ⟨u, rfl, hx, b1⟩
  go_wp2
  go_ret
  exact ⟨u, rfl, hx, (below1 w _).trans (b1.mono (by simp))⟩

set_option maxRecDepth 100000 in
set_option maxHeartbeats 1000000 in
/-- Some value of a kind. -/
theorem ofKind_any (k : Int) (w : World) : Calls Tryz.prog 73 #[.int .i64 k] w fun e w' => ∃ u, e = .returned u ∧ Kd k u ∧ Below w.heap.size w w' := by
  have H := Lib.hid (of_kind k)
  go_enter Tryz.func73, Tryz.ntmps73
  go_wp2_with fail
  refine (H.out _).mono ?_
  rintro e w1 ⟨u, rfl, hx, b1⟩
  go_wp2
  go_ret
  exact ⟨u, rfl, hx, b1⟩
end Go.Proofs.YthamafijjflfbaaGreat
