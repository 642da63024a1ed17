/- The package's Open and the document's of a value's tree: the same; the conditions: the tree in memory, valid, its bits within 64. -/
import Derived.Test.YtlmebokbbhjbmaaGreatDoorOpn
import Derived.Test.YtlmebokbbhjbmaaGreatDoorDCopy
import Derived.Test.YtlmebokbbhjbmaaGreatDoorCLnA
namespace Go.Proofs.YtlmebokbbhjbmaaGreatDoor.Dt
open Go.RowKit
/-- The value of no kind. -/
abbrev T0 : Tr 1 := ((0, 0, 0, ⟨#[]⟩, []) : Int × Int × Int × ByteArray × List (Tr 0))
abbrev zro : Value := .agg #[.int .i64 0, .int .i64 0, .int .u64 0, .string ⟨#[]⟩, .slice none 0 0]
theorem rep0 (w : World) : Rep w 1 [.int .i64 0, .int .i64 0, .int .u64 0, .string ⟨#[]⟩, .slice none 0 0] T0 := ⟨none, 0, rfl, by decide, Nat.le_refl _, by decide, .inl rfl⟩
/-- What Open answers. -/
def IsO (w : World) (m : Nat) (t : Tr (m + 1)) (cs : List Value) : Prop := (t.kd = 11 ∧ ∃ t0, t.ks = [t0] ∧ Rep w m cs t0) ∨ (t.kd ≠ 11 ∧ Rep w 1 cs T0)
def opnE (k : Int) : Int := if k = 11 then 0 else if k = 12 then 13 else 12
theorem IsO.below {w w' : World} {m : Nat} {t : Tr (m + 1)} {cs : List Value} (h : IsO w m t cs) (hb : Below w.heap.size w w') : IsO w' m t cs := by
  rcases h with ⟨h1, t0, h2, h3⟩ | ⟨h1, h2⟩
  · exact .inl ⟨h1, t0, h2, Rep.below hb _ _ _ h3⟩
  · exact .inr ⟨h1, Rep.below hb _ _ _ h2⟩
theorem sameO {w : World} {m : Nat} {t : Tr (m + 1)} {v0 v1 v2 v3 v4 x0 x1 x2 x3 x4 : Value} (h : IsO w m t [v0, v1, v2, v3, v4]) (h' : IsO w m t [x0, x1, x2, x3, x4]) :
    Calls Tryz.prog 14 #[.agg #[v0, v1, v2, v3, v4], .agg #[x0, x1, x2, x3, x4]] w fun e w' => e = .returned (.bool true) ∧ Below w.heap.size w w' := by
  rcases h with ⟨h1, t0, h2, h3⟩ | ⟨h1, h2⟩
  · rcases h' with ⟨g1, t1, g2, g3⟩ | ⟨g1, g2⟩
    · obtain rfl : t0 = t1 := by rw [h2] at g2; simpa using g2
      exact sameD m t0 _ _ _ _ _ _ _ _ _ _ w h3 g3
    · exact absurd h1 g1
  · rcases h' with ⟨g1, t1, g2, g3⟩ | ⟨g1, g2⟩
    · exact absurd g1 h1
    · exact sameD 1 T0 _ _ _ _ _ _ _ _ _ _ w h2 g2

theorem openNil (w : World) : Calls Tryz.prog 143 #[.pointer none] w fun e w' => ∃ T z, e = .panicked [{ v := .iface T z, recovered := false }] ∧ w' = w := by
  go_enter Tryz.func143, Tryz.ntmps143
  go_wp2
  exact ⟨rfl, _, _, rfl, rfl⟩
theorem opn_catch (A B : Nat) (T : TypeId) (z : Value) (older : List PanicEntry) (w : World) (x0 x1 x2 x3 x4 y : Value) (hne : A ≠ B) (hc : w.cell? ⟨A, 0, none⟩ = some x0 ∧ w.cell? ⟨A, 1, none⟩ = some x1 ∧ w.cell? ⟨A, 2, none⟩ = some x2 ∧ w.cell? ⟨A, 3, none⟩ = some x3 ∧ w.cell? ⟨A, 4, none⟩ = some x4) (hz : ∀ o, w.frozen? ⟨A, o, none⟩ = false) (hc' : w.cell? ⟨B, 0, none⟩ = some y) (hz' : ∀ o, w.frozen? ⟨B, o, none⟩ = false) :
    CallsD Tryz.prog 27 #[.pointer (some ⟨A, 0, none⟩), .pointer (some ⟨B, 0, none⟩)] (.panicking ({ v := .iface T z, recovered := false } :: older)) w fun e u' w' =>
      e = .returned (.tuple #[]) ∧ u' = .panicking ({ v := .iface T z, recovered := true } :: older) ∧ w' = (((((w.setCell ⟨A, 0, none⟩ (.int .i64 0)).setCell ⟨A, 1, none⟩ (.int .i64 0)).setCell ⟨A, 2, none⟩ (.int .u64 0)).setCell ⟨A, 3, none⟩ (.string ⟨#[]⟩)).setCell ⟨A, 4, none⟩ (.slice none 0 0)).setCell ⟨B, 0, none⟩ (.int .i64 13) := by
  obtain ⟨c0, c1, c2, c3, c4⟩ := hc
  refine callsD_of_wpS Tryz.func27 rfl fun c₀ cs hu => ?_
  apply wpS_seq
  apply wpS_region
  simp [wpOpsS, go_sem, recoverD, hu, Tryz.ntmps27, Exit.thenS]
  refine wpS_cond (t := true) (by simp [Act.eval, Array.replicate]) ?_
  simp only [if_true]
  apply wpS_region
  simp [wpOpsS, go_sem, c0, c1, c2, c3, c4, hz, hc', hz', World.cell?_setCell_other, bodyPostS, results, Tryz.results27]
set_option maxRecDepth 100000 in
set_option maxHeartbeats 2000000 in
theorem opnNil (k i u : Int) (s0 : ByteArray) (ad : Option Addr) (len cap : Nat) (w : World)
    (hO : ∀ wx, Below w.heap.size w wx → Calls Tryz.prog 24 #[.agg #[.int .i64 k, .int .i64 i, .int .u64 u, .string s0, .slice ad len cap]] wx fun e w' => e = .returned (.iface 110 (.pointer none)) ∧ Below wx.heap.size wx w') :
    Calls Tryz.prog 12 #[.agg #[.int .i64 k, .int .i64 i, .int .u64 u, .string s0, .slice ad len cap]] w fun e w' => e = .returned (.tuple #[zro, .int .i64 13]) ∧ Below w.heap.size w w' := by
  have hmf : ∀ (fn : Fn) (first cap : Array Value) (w : World), (Instr.makeFunc fn first cap).run Tryz.prog w = .ok (.func fn first cap) w := fun _ _ _ _ => rfl
  have hmm : ∀ (z : Value) (w : World), (method 323 110 z "Open").run Tryz.prog w = .ok (143, z) w := fun _ _ => by kernel_rfl
  have hcf : ∀ (args : Array Value) (w : World), (callFunc 143 args).run Tryz.prog w = .ok (.enter 143 args) w := fun _ _ => by kernel_rfl
  have has : ∀ (z : Value) (w : World), (Instr.typeAssert (.iface 110 z) 20 65 true).run Tryz.prog w = .ok (.tuple #[.iface 110 z, .bool true]) w := fun z w => run_typeAssert_hasB Tryz.underlying65 (by kernel_rfl) _ _ w
  have h0 := Th.start w (.int .i64 k) (.int .i64 i) (.int .u64 u) (.string s0) (.slice ad len cap)
  have HO := Lib.hid hO
  clear hO
  go_enter_defers Tryz.func12, Tryz.ntmps12
  go_wp2_with fail
  refine (HO.out _ h0.below).mono ?_
  rintro e w1 ⟨rfl, b1⟩
  have h1 := h0.step b1
  go_wp2_with fail
  refine (openNil _).mono ?_
  rintro e w2 ⟨T, z, rfl, rfl⟩
  obtain ⟨⟨d0, d1, d2, d3, d4⟩, f0, fz, fz'⟩ := h1.d
  have B := h1.below
  go_wp2
  refine leaves_cons (f := 27) (args := #[.pointer (some ⟨w.heap.size + 1, 0, none⟩), .pointer (some ⟨w.heap.size + 1 + 1, 0, none⟩)]) (by simp) (by simp [go_sem]) ?_
  refine (opn_catch _ _ T z [] _ _ _ _ _ _ _ (by omega) ⟨d0, d1, d2, d3, d4⟩ fz f0 fz').mono ?_
  rintro e u' w'' ⟨rfl, rfl, rfl⟩
  simp [Leaves, settle, results, Tryz.results12, go_sem, World.cell?_setCell_same, World.cell?_setCell_other, d0, d1, d2, d3, d4, f0]
  exact (((((B.setCell (by show w.heap.size ≤ w.heap.size + 1; omega) _).setCell (by show w.heap.size ≤ w.heap.size + 1; omega) _).setCell (by show w.heap.size ≤ w.heap.size + 1; omega) _).setCell (by show w.heap.size ≤ w.heap.size + 1; omega) _).setCell (by show w.heap.size ≤ w.heap.size + 1; omega) _).setCell (by show w.heap.size ≤ w.heap.size + 1 + 1; omega) _
set_option maxRecDepth 100000 in
set_option maxHeartbeats 2000000 in
theorem opnNo (k i u : Int) (s0 : ByteArray) (ad : Option Addr) (len cap : Nat) (w : World)
    (hO : ∀ wx, Below w.heap.size w wx → Calls Tryz.prog 24 #[.agg #[.int .i64 k, .int .i64 i, .int .u64 u, .string s0, .slice ad len cap]] wx fun e w' => ∃ v, e = .returned v ∧ Sx v ∧ Hid (∀ w, (Instr.typeAssert v 20 65 true).run Tryz.prog w = .ok (.tuple #[.nilIface, .bool false]) w) ∧ Below wx.heap.size wx w') :
    Calls Tryz.prog 12 #[.agg #[.int .i64 k, .int .i64 i, .int .u64 u, .string s0, .slice ad len cap]] w fun e w' => e = .returned (.tuple #[zro, .int .i64 12]) ∧ Below w.heap.size w w' := by
  have hmf : ∀ (fn : Fn) (first cap : Array Value) (w : World), (Instr.makeFunc fn first cap).run Tryz.prog w = .ok (.func fn first cap) w := fun _ _ _ _ => rfl
  have h0 := Th.start w (.int .i64 k) (.int .i64 i) (.int .u64 u) (.string s0) (.slice ad len cap)
  have HO := Lib.hid hO
  clear hO
  go_enter_defers Tryz.func12, Tryz.ntmps12
  go_wp2_with fail
  refine (HO.out _ h0.below).mono ?_
  rintro e w1 ⟨v, rfl, hs, ha, b1⟩
  have h2 := h0.step b1
  rcases hs with rfl | ⟨T, z, rfl⟩
  all_goals
    have has := ha.out
    obtain ⟨⟨d0, d1, d2, d3, d4⟩, f0, fz, fz'⟩ := h2.d
    have B := h2.below
    go_wp2
    refine leaves_cons (f := 27) (args := #[.pointer (some ⟨w.heap.size + 1, 0, none⟩), .pointer (some ⟨w.heap.size + 1 + 1, 0, none⟩)]) (by simp) (by simp [go_sem]) ?_
    refine (opn_idle _ _ _).mono ?_
    rintro e u' w'' ⟨rfl, rfl, rfl⟩
    simp [Leaves, settle, results, Tryz.results12, go_sem, World.cell?_setCell_same, World.cell?_setCell_other, d0, d1, d2, d3, d4, f0]
    exact (((((B.setCell (by show w.heap.size ≤ w.heap.size + 1; omega) _).setCell (by show w.heap.size ≤ w.heap.size + 1; omega) _).setCell (by show w.heap.size ≤ w.heap.size + 1; omega) _).setCell (by show w.heap.size ≤ w.heap.size + 1; omega) _).setCell (by show w.heap.size ≤ w.heap.size + 1; omega) _).setCell (by show w.heap.size ≤ w.heap.size + 1 + 1; omega) _

set_option maxRecDepth 100000 in
set_option maxHeartbeats 1000000 in
theorem opn_any (W0 : World) (m : Nat) (t : Tr (m + 1)) (k i u : Int) (s0 : ByteArray) (ad : Option Addr) (len cap : Nat) (w : World) (hrg : rgt (m + 1) t = true) (h64 : r64 (m + 1) t) (hps : (pts (m + 1) t).1 ≤ 4096) (hrep : Rep W0 (m + 1) [.int .i64 k, .int .i64 i, .int .u64 u, .string s0, .slice ad len cap] t) (hb : Below W0.heap.size W0 w) :
    Calls Tryz.prog 12 #[.agg #[.int .i64 k, .int .i64 i, .int .u64 u, .string s0, .slice ad len cap]] w fun e w' => ∃ (y0 y1 y2 : Int) (y3 : ByteArray) (y4 : Option Addr) (y5 y6 : Nat), e = .returned (.tuple #[.agg #[.int .i64 y0, .int .i64 y1, .int .u64 y2, .string y3, .slice y4 y5 y6], .int .i64 (opnE t.kd)]) ∧ IsO w' m t [.int .i64 y0, .int .i64 y1, .int .u64 y2, .string y3, .slice y4 y5 y6] ∧ Below w.heap.size w w' := by
  have HO : ∀ wx, Below w.heap.size w wx → Calls Tryz.prog 24 #[.agg #[.int .i64 k, .int .i64 i, .int .u64 u, .string s0, .slice ad len cap]] wx fun e w' => ∃ v, e = .returned v ∧ Hid (VR (fun g => wx.heap.size ≤ g ∧ g < w'.heap.size) w' (m + 1) v t) ∧ Below wx.heap.size wx w' := fun wx hx => of_any W0 (m + 1) t k i u s0 ad len cap wx hrg hps hrep (hb.trans (hx.mono hb.size))
  by_cases h11 : t.kd = 11
  · have e1 : opnE t.kd = 0 := by simp [opnE, h11]
    rw [e1]
    obtain ⟨hp1, hp2⟩ := pts_kids hps
    have hrg' := hrg
    simp only [rgt, Bool.and_eq_true] at hrg'
    obtain ⟨hok, hall⟩ := hrg'
    have hok' : okB 11 t.it t.ut t.tx.size t.ks.length = true := by have h := hok; unfold Tr.ok at h; rw [h11] at h; exact h
    obtain ⟨o1, o2, o3, o4⟩ := ok11 hok'
    obtain ⟨t0, ht0⟩ : ∃ t0, t.ks = [t0] := by
      match hk : t.ks, o4 with
      | [x], _ => exact ⟨x, rfl⟩
    have hm0 : t0 ∈ t.ks := by rw [ht0]; simp
    have htx : t.tx = ⟨#[]⟩ := empty_of o3
    obtain ⟨ad', cap', e, -⟩ := id hrep
    simp only [List.cons.injEq, Value.int.injEq, Value.string.injEq, Value.slice.injEq, true_and, and_true] at e
    obtain ⟨rfl, rfl, rfl, rfl, rfl, rfl, rfl⟩ := e
    rw [h11, o2, htx, o4] at HO ⊢
    cases m with
    | zero => exact (show Empty from t0).elim
    | succ m =>
      have hr0 : rgt (m + 1) t0 = true := List.all_eq_true.1 hall t0 hm0
      refine (open_box m t0 t.it ad cap w hr0 (h64.2 t0 hm0) (hp2 t0 hm0) fun wx hx => (HO wx hx).mono fun e w' ⟨v, he, vr, hb'⟩ => ?_).mono fun e w' ⟨v0, v1, v2, v3, v4, he, rf, _, hb'⟩ => ?_
      · have hv := vr.out
        simp only [VR] at hv
        rcases hv with ⟨q, -⟩ | ⟨q, -⟩ | ⟨q, -⟩ | ⟨q, -⟩ | ⟨q, -⟩ | ⟨q, -⟩ | ⟨q, -⟩ | ⟨q, -⟩ | ⟨q, -⟩ | ⟨q, -⟩ | ⟨q, -⟩ | ⟨q, b, u, t1, g1, g2, g3, g4, g5⟩ | ⟨q, -⟩ | ⟨q, -⟩
        all_goals first | omega | skip
        obtain rfl : t0 = t1 := by rw [ht0] at g3; simpa using g3
        exact ⟨b, u, _, by rw [he, g1], ⟨g4, g5⟩, hb'⟩
      · obtain ⟨u0, u1, u2, u3, a4, n4, c4', rfl, rfl, rfl, rfl, rfl⟩ := rep_shape (Rf.rep _ _ _ rf)
        exact ⟨u0, u1, u2, u3, a4, n4, c4', he, .inl ⟨h11, t0, ht0, Rf.rep _ _ _ rf⟩, hb'⟩
  · have fin : ∀ {e : Ending} {w' : World} {c : Int}, (e = .returned (.tuple #[zro, .int .i64 c]) ∧ Below w.heap.size w w') → ∃ (y0 y1 y2 : Int) (y3 : ByteArray) (y4 : Option Addr) (y5 y6 : Nat), e = .returned (.tuple #[.agg #[.int .i64 y0, .int .i64 y1, .int .u64 y2, .string y3, .slice y4 y5 y6], .int .i64 c]) ∧ IsO w' m t [.int .i64 y0, .int .i64 y1, .int .u64 y2, .string y3, .slice y4 y5 y6] ∧ Below w.heap.size w w' := fun ⟨q1, q2⟩ => ⟨0, 0, 0, ⟨#[]⟩, none, 0, 0, q1, .inr ⟨h11, rep0 _⟩, q2⟩
    by_cases h12 : t.kd = 12
    · have e1 : opnE t.kd = 13 := by simp [opnE, h12]
      rw [e1]
      refine (opnNil k i u s0 ad len cap w fun wx hx => (HO wx hx).mono fun e w' ⟨v, he, vr, hb'⟩ => ?_).mono fun e w' q => fin q
      rcases vr_cases vr.out with ⟨q, rfl⟩ | ⟨q, rfl⟩ | ⟨q, rfl⟩ | ⟨q, rfl⟩ | ⟨q, rfl⟩ | ⟨q, rfl⟩ | ⟨q, rfl⟩ | ⟨q, a, c, rfl⟩ | ⟨q, a, c, rfl⟩ | ⟨q, x, y, rfl, hx, hy⟩ | ⟨q, rfl⟩ | ⟨q, b, u, rfl, hh, hu⟩ | ⟨q, rfl⟩ | ⟨q, rfl⟩
      all_goals first | omega | exact ⟨he, hb'⟩
    · have e1 : opnE t.kd = 12 := by simp [opnE, h11, h12]
      rw [e1]
      refine (opnNo k i u s0 ad len cap w fun wx hx => (HO wx hx).mono fun e w' ⟨v, he, vr, hb'⟩ => ?_).mono fun e w' q => fin q
      rcases vr_cases vr.out with ⟨q, rfl⟩ | ⟨q, rfl⟩ | ⟨q, rfl⟩ | ⟨q, rfl⟩ | ⟨q, rfl⟩ | ⟨q, rfl⟩ | ⟨q, rfl⟩ | ⟨q, a, c, rfl⟩ | ⟨q, a, c, rfl⟩ | ⟨q, x, y, rfl, hx, hy⟩ | ⟨q, rfl⟩ | ⟨q, b, u, rfl, hh, hu⟩ | ⟨q, rfl⟩ | ⟨q, rfl⟩
      all_goals first | omega | exact ⟨_, he, .inl rfl, fun w => assert_nil Tryz.underlying65 (by kernel_rfl), hb'⟩ | exact ⟨_, he, .inr ⟨_, _, rfl⟩, fun w => run_typeAssert_lacksB Tryz.underlying65 (by kernel_rfl) (by kernel_rfl) _ _ w, hb'⟩

set_option maxRecDepth 100000 in
set_option maxHeartbeats 1000000 in
theorem refOpn (W0 : World) (m : Nat) (t : Tr (m + 1)) (k i u : Int) (s0 : ByteArray) (ad : Option Addr) (len cap : Nat) (w : World) (hrg : rgt (m + 1) t = true) (hps : (pts (m + 1) t).1 ≤ 4096) (hrep : Rep W0 (m + 1) [.int .i64 k, .int .i64 i, .int .u64 u, .string s0, .slice ad len cap] t) (hb : Below W0.heap.size W0 w) :
    Calls Tryz.prog 13 #[.agg #[.int .i64 k, .int .i64 i, .int .u64 u, .string s0, .slice ad len cap]] w fun e w' => ∃ (y0 y1 y2 : Int) (y3 : ByteArray) (y4 : Option Addr) (y5 y6 : Nat), e = .returned (.tuple #[.agg #[.int .i64 y0, .int .i64 y1, .int .u64 y2, .string y3, .slice y4 y5 y6], .int .i64 (opnE t.kd)]) ∧ IsO w' m t [.int .i64 y0, .int .i64 y1, .int .u64 y2, .string y3, .slice y4 y5 y6] ∧ Below w.heap.size w w' := by
  have B := below2 w (.cells #[.int .i64 k, .int .i64 i, .int .u64 u, .string s0, .slice ad len cap] 25) (.cells #[.int .i64 0, .int .i64 0, .int .u64 0, .string ⟨#[]⟩, .slice none 0 0] 25)
  have hD1 := (D5.new w (.int .i64 k) (.int .i64 i) (.int .u64 u) (.string s0) (.slice ad len cap)).below (below1 _ (.cells #[.int .i64 0, .int .i64 0, .int .u64 0, .string ⟨#[]⟩, .slice none 0 0] 25))
  have hD2 := D5.new (w.alloc (.cells #[.int .i64 k, .int .i64 i, .int .u64 u, .string s0, .slice ad len cap] 25)) (.int .i64 0) (.int .i64 0) (.int .u64 0) (.string ⟨#[]⟩) (.slice none 0 0)
  rw [World.size_alloc] at hD2
  obtain ⟨c0, c1, c2, c3, c4⟩ := hD1.c
  clear hD1
  by_cases h11 : t.kd = 11
  · have e1 : opnE t.kd = 0 := by simp [opnE, h11]
    rw [e1]
    obtain ⟨hp1, hp2⟩ := pts_kids hps
    have hrg' := hrg
    simp only [rgt, Bool.and_eq_true] at hrg'
    obtain ⟨hok, hall⟩ := hrg'
    have hok' : okB 11 t.it t.ut t.tx.size t.ks.length = true := by have h := hok; unfold Tr.ok at h; rw [h11] at h; exact h
    obtain ⟨o1, o2, o3, o4⟩ := ok11 hok'
    obtain ⟨t0, ht0⟩ : ∃ t0, t.ks = [t0] := by
      match hk : t.ks, o4 with
      | [x], _ => exact ⟨x, rfl⟩
    have hm0 : t0 ∈ t.ks := by rw [ht0]; simp
    obtain ⟨ad', cap', e, htx, hlc, hcm, hkk⟩ := id hrep
    simp only [List.cons.injEq, Value.int.injEq, Value.string.injEq, Value.slice.injEq, true_and, and_true] at e
    obtain ⟨rfl, rfl, rfl, rfl, rfl, rfl, rfl⟩ := e
    obtain ⟨g, o, rfl, hj⟩ := hkk.resolve_left (fun h => by rw [h] at ht0; cases ht0)
    obtain ⟨v0, v1, v2, v3, v4, q0, q1, q2, q3, q4, rr⟩ := hj 0 t0 (by rw [ht0]; rfl)
    obtain ⟨x0, x1, x2, x3, x4, x5, x6, rfl, rfl, rfl, rfl, rfl⟩ := rep_shape rr
    have hB0 := hb.trans (B.mono hb.size)
    have hgl : g < W0.heap.size := World.block_lt_of_cell? W0 _ q0
    have K : ∀ W, Below W0.heap.size W0 W → W.cell? ⟨g, o, none⟩ = some (.int .i64 x0) ∧ W.cell? ⟨g, o + 1, none⟩ = some (.int .i64 x1) ∧ W.cell? ⟨g, o + 2, none⟩ = some (.int .u64 x2) ∧ W.cell? ⟨g, o + 3, none⟩ = some (.string x3) ∧ W.cell? ⟨g, o + 4, none⟩ = some (.slice x4 x5 x6) := fun W h => ⟨(h.cell (p := ⟨g, o, none⟩) hgl).trans (by simpa using q0), (h.cell (p := ⟨g, o + 1, none⟩) hgl).trans (by simpa using q1), (h.cell (p := ⟨g, o + 2, none⟩) hgl).trans (by simpa using q2), (h.cell (p := ⟨g, o + 3, none⟩) hgl).trans (by simpa using q3), (h.cell (p := ⟨g, o + 4, none⟩) hgl).trans (by simpa using q4)⟩
    obtain ⟨z0, z1, z2, z3, z4⟩ := K _ hB0
    have HC := Lib.hid (copy_any m t0 _ _ _ _ _ _ (Rep.below hB0 _ _ _ rr) (hp2 t0 hm0))
    rw [h11, o4] at HC z0 z1 z2 z3 z4 c0 c1 c2 c3 c4 B hD2 ⊢
    clear hrep hj hkk hrg hps hall hok hok' rr K hp2 hB0 q0 q1 q2 q3 q4 o1 o2 o3
    go_enter Tryz.func13, Tryz.ntmps13
    go_wp2_with fail
    refine HC.out.mono ?_
    rintro e w2 ⟨y0, y1, y2, y3, y4, y5, y6, rfl, rf, b2⟩
    have D2 := hD2.below b2
    obtain ⟨d0, d1, d2, d3, d4⟩ := D2.c
    have fz : ∀ o, w2.frozen? ⟨w.heap.size + 1, o, none⟩ = false := fun o => D2.f (o := o)
    have RF := Lib.hid rf
    have B2 := B.trans (b2.mono B.size)
    clear rf
    go_wp2
    refine bodyPost_ret (v := .tuple #[.agg #[.int .i64 y0, .int .i64 y1, .int .u64 y2, .string y3, .slice y4 y5 y6], .int .i64 0]) (by simp [results, Tryz.results13, go_sem, World.cell?_setCell_same, World.cell?_setCell_other, d0, d1, d2, d3, d4]) rfl ⟨y0, y1, y2, y3, y4, y5, y6, rfl, .inl ⟨h11, t0, ht0, ?_⟩, ?_⟩
    · refine Rf.rep (F := fun _ => True) _ _ _ (Rf.to (fun q hq => ⟨trivial, ?_⟩) _ _ _ RF.out)
      have hne : q ≠ w.heap.size + 1 := by have := hq.1; simp at this; omega
      rw [Below.heap_setCell _ _ _ q hne, Below.heap_setCell _ _ _ q hne, Below.heap_setCell _ _ _ q hne, Below.heap_setCell _ _ _ q hne, Below.heap_setCell _ _ _ q hne]
    · exact ((((B2.setCell (by show w.heap.size ≤ w.heap.size + 1; omega) _).setCell (by show w.heap.size ≤ w.heap.size + 1; omega) _).setCell (by show w.heap.size ≤ w.heap.size + 1; omega) _).setCell (by show w.heap.size ≤ w.heap.size + 1; omega) _).setCell (by show w.heap.size ≤ w.heap.size + 1; omega) _
  · obtain ⟨ad', cap', e, -⟩ := id hrep
    simp only [List.cons.injEq, Value.int.injEq, Value.string.injEq, Value.slice.injEq, true_and, and_true] at e
    obtain ⟨rfl, rfl, rfl, rfl, rfl, rfl, rfl⟩ := e
    have HK : Hid (t.kd ≠ 11) := h11
    generalize t.kd = k at c0 B h11 ⊢
    clear hrep hD2
    by_cases h12 : k = 12
    · subst h12
      go_enter Tryz.func13, Tryz.ntmps13
      go_wp2
      refine bodyPost_ret (v := .tuple #[zro, .int .i64 13]) (by simp [results, Tryz.results13, go_sem]) rfl ⟨0, 0, 0, ⟨#[]⟩, none, 0, 0, rfl, .inr ⟨HK.out, rep0 _⟩, below2 w _ _⟩
    · have e11 : (k == 11) = false := by simpa using h11
      have e12 : (k == 12) = false := by simpa using h12
      go_enter Tryz.func13, Tryz.ntmps13
      go_wp2
      refine bodyPost_ret (v := .tuple #[zro, .int .i64 12]) (by simp [results, Tryz.results13, go_sem]) rfl ⟨0, 0, 0, ⟨#[]⟩, none, 0, 0, by rw [show opnE k = 12 by simp [opnE, h11, h12]], .inr ⟨HK.out, rep0 _⟩, below2 w _ _⟩
end Go.Proofs.YtlmebokbbhjbmaaGreatDoor.Dt
