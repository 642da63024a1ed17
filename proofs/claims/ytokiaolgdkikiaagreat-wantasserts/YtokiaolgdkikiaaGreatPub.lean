/- The package's Holds, Covers and Meets at right patterns; the conditions: the patterns' trees lie in memory and are right, the value's kind is one. -/
import Derived.Test.YtokiaolgdkikiaaGreatFit
namespace Go.Proofs.YtokiaolgdkikiaaGreat
open Go.RowKit

theorem OneD.drew {w : World} {v0 v1 v2 : Value} {k i b : Int} {s : ByteArray} {ad : Option Addr} {len cap : Nat} {w' : World} (h : OneD w v0 v1 v2 k i b s ad len cap w') : OneD w v0 v1 v2 k i b s ad len cap w'.drew := Below.drew h
theorem OneD.below {w : World} {v0 v1 v2 : Value} {k i b : Int} {s : ByteArray} {ad : Option Addr} {len cap : Nat} {w' : World} (h : OneD w v0 v1 v2 k i b s ad len cap w') : Below w.heap.size w w' := (below2 w _ _).trans (Below.mono h (by omega))
theorem OneD.step {w : World} {v0 v1 v2 : Value} {k i b : Int} {s : ByteArray} {ad : Option Addr} {len cap : Nat} {w1 w2 : World} (h : OneD w v0 v1 v2 k i b s ad len cap w1) (hb : Below w1.heap.size w1 w2) : OneD w v0 v1 v2 k i b s ad len cap w2 := by
  have := Below.size h
  simp at this
  exact Below.trans h (hb.mono (by omega))
theorem OneD.start (w : World) (v0 v1 v2 : Value) (k i b : Int) (s : ByteArray) (ad : Option Addr) (len cap : Nat) : OneD w v0 v1 v2 k i b s ad len cap ((w.alloc (.cells #[v0, v1, v2] 24)).alloc (.cells #[.int .i64 k, .int .i64 i, .int .u64 b, .string s, .slice ad len cap] 30)) := Below.refl _ _
theorem OneD.c {w : World} {v0 v1 v2 : Value} {k i b : Int} {s : ByteArray} {ad : Option Addr} {len cap : Nat} {w' : World} (h : OneD w v0 v1 v2 k i b s ad len cap w') :
    w'.cell? ⟨w.heap.size, 0, none⟩ = some v0 ∧ w'.cell? ⟨w.heap.size, 1, none⟩ = some v1 ∧ w'.cell? ⟨w.heap.size, 2, none⟩ = some v2 ∧ w'.cell? ⟨w.heap.size + 1, 0, none⟩ = some (.int .i64 k) := by
  have e0 := heap_alloc_new w (.cells #[v0, v1, v2] 24)
  have e1 := heap_alloc_new (w.alloc (.cells #[v0, v1, v2] 24)) (.cells #[.int .i64 k, .int .i64 i, .int .u64 b, .string s, .slice ad len cap] 30)
  simp only [World.size_alloc] at e1
  have h0 : w'.heap[w.heap.size]? = some (.cells #[v0, v1, v2] 24 (0, 0)) := (Below.block h w.heap.size (by omega)).trans (((below1 _ _).block _ (by simp)).trans e0)
  have h1 : w'.heap[w.heap.size + 1]? = some (.cells #[.int .i64 k, .int .i64 i, .int .u64 b, .string s, .slice ad len cap] 30 (0, 0)) := (Below.block h (w.heap.size + 1) (by omega)).trans e1
  simp [World.cell?, h0, h1]

set_option maxRecDepth 100000 in
set_option maxHeartbeats 2000000 in
theorem holdsP (n : Nat) (t : Wt n) (v0 v1 v2 : Value) (k i b : Int) (s : ByteArray) (ad : Option Addr) (len cap : Nat) (w : World) (hr : RepW w n [v0, v1, v2] t) (hg : wgt n t = true) (k0 : 0 ≤ k) (k1 : k ≤ 13) :
    Calls Tryz.prog 14 #[.agg #[v0, v1, v2], .agg #[.int .i64 k, .int .i64 i, .int .u64 b, .string s, .slice ad len cap]] w fun e w' => e = .returned (.bool (evk n t k)) ∧ Below w.heap.size w w' := by
  obtain ⟨o, m, wd, wl, wc, rfl, rfl, rfl⟩ := repW_shape hr
  have HK : Hid (∀ (wx : World), OneD w (.int .i64 o) (.int .i64 m) (.slice wd wl wc) k i b s ad len cap wx → Calls Tryz.prog 40 #[.int .i64 k] wx fun e w' => ∃ u, e = .returned u ∧ Kd k u ∧ OneD w (.int .i64 o) (.int .i64 m) (.slice wd wl wc) k i b s ad len cap w') := fun wx hx => (ofKind_any k wx).mono fun e w' ⟨u, a, b, c⟩ => ⟨u, a, b, hx.step c⟩
  have HH : Hid (∀ (u : Value) (wx : World), Kd k u → OneD w (.int .i64 o) (.int .i64 m) (.slice wd wl wc) k i b s ad len cap wx → Calls Tryz.prog 39 #[.agg #[.int .i64 o, .int .i64 m, .slice wd wl wc], u] wx fun e w' => e = .returned (.bool (evk n t k)) ∧ OneD w (.int .i64 o) (.int .i64 m) (.slice wd wl wc) k i b s ad len cap w') := fun u wx hu hx => (holds_any n t _ _ _ u k wx (RepW.below hx.below n _ _ hr) hg hu k0 k1).mono fun e w' ⟨a, b⟩ => ⟨a, hx.step b⟩
  have HS : Hid (∀ wx, OneD w (.int .i64 o) (.int .i64 m) (.slice wd wl wc) k i b s ad len cap wx → wx.cell? ⟨w.heap.size, 0, none⟩ = some (.int .i64 o) ∧ wx.cell? ⟨w.heap.size, 1, none⟩ = some (.int .i64 m) ∧ wx.cell? ⟨w.heap.size, 2, none⟩ = some (.slice wd wl wc) ∧ wx.cell? ⟨w.heap.size + 1, 0, none⟩ = some (.int .i64 k)) := fun wx h => h.c
  have hb0 := OneD.start w (.int .i64 o) (.int .i64 m) (.slice wd wl wc) k i b s ad len cap
  clear hr hg k0 k1
  generalize evk n t k = p at HH
  go_enter Tryz.func14, Tryz.ntmps14
  go_wp2_with fail
  go_region_held3 (fun w' => w'.cell? ⟨w.heap.size, 0, none⟩ = some (.int .i64 o) ∧ w'.cell? ⟨w.heap.size, 1, none⟩ = some (.int .i64 m) ∧ w'.cell? ⟨w.heap.size, 2, none⟩ = some (.slice wd wl wc) ∧ w'.cell? ⟨w.heap.size + 1, 0, none⟩ = some (.int .i64 k)) (exact HS.out _ (by first | assumption | exact OneD.drew (by assumption))) (first | (go_at_call 40; refine (HK.out _ (by first | assumption | exact OneD.drew (by assumption))).mono ?_; rintro e wa ⟨ua, rfl, hu, ba⟩) | (go_at_call 39; refine (HH.out _ _ (by assumption) (by first | assumption | exact OneD.drew (by assumption))).mono ?_; rintro e wc ⟨rfl, bc⟩))
  all_goals go_wp2
  all_goals go_ret
  all_goals exact ⟨rfl, OneD.below (by first | assumption | exact OneD.drew (by assumption))⟩

/-- The two blocks of Covers and Meets. -/
def Tw (w : World) (v0 v1 v2 x0 x1 x2 : Value) (w' : World) : Prop := Below (w.heap.size + 2) ((w.alloc (.cells #[v0, v1, v2] 24)).alloc (.cells #[x0, x1, x2] 24)) w'
theorem Tw.drew {w : World} {v0 v1 v2 x0 x1 x2 : Value} {w' : World} (h : Tw w v0 v1 v2 x0 x1 x2 w') : Tw w v0 v1 v2 x0 x1 x2 w'.drew := Below.drew h
theorem Tw.below {w : World} {v0 v1 v2 x0 x1 x2 : Value} {w' : World} (h : Tw w v0 v1 v2 x0 x1 x2 w') : Below w.heap.size w w' := (below2 w _ _).trans (Below.mono h (by omega))
theorem Tw.step {w : World} {v0 v1 v2 x0 x1 x2 : Value} {w1 w2 : World} (h : Tw w v0 v1 v2 x0 x1 x2 w1) (hb : Below w1.heap.size w1 w2) : Tw w v0 v1 v2 x0 x1 x2 w2 := by
  have := Below.size h
  simp at this
  exact Below.trans h (hb.mono (by omega))
theorem Tw.start (w : World) (v0 v1 v2 x0 x1 x2 : Value) : Tw w v0 v1 v2 x0 x1 x2 ((w.alloc (.cells #[v0, v1, v2] 24)).alloc (.cells #[x0, x1, x2] 24)) := Below.refl _ _
theorem Tw.c {w : World} {v0 v1 v2 x0 x1 x2 : Value} {w' : World} (h : Tw w v0 v1 v2 x0 x1 x2 w') :
    (w'.cell? ⟨w.heap.size, 0, none⟩ = some v0 ∧ w'.cell? ⟨w.heap.size, 1, none⟩ = some v1 ∧ w'.cell? ⟨w.heap.size, 2, none⟩ = some v2) ∧ w'.cell? ⟨w.heap.size + 1, 0, none⟩ = some x0 ∧ w'.cell? ⟨w.heap.size + 1, 1, none⟩ = some x1 ∧ w'.cell? ⟨w.heap.size + 1, 2, none⟩ = some x2 := by
  have e0 := heap_alloc_new w (.cells #[v0, v1, v2] 24)
  have e1 := heap_alloc_new (w.alloc (.cells #[v0, v1, v2] 24)) (.cells #[x0, x1, x2] 24)
  simp only [World.size_alloc] at e1
  have h0 : w'.heap[w.heap.size]? = some (.cells #[v0, v1, v2] 24 (0, 0)) := (Below.block h w.heap.size (by omega)).trans (((below1 _ _).block _ (by simp)).trans e0)
  have h1 : w'.heap[w.heap.size + 1]? = some (.cells #[x0, x1, x2] 24 (0, 0)) := (Below.block h (w.heap.size + 1) (by omega)).trans e1
  simp [World.cell?, h0, h1]

/-- The kinds that are in the second and not in the first. -/
def offN (p q : Int → Bool) : Nat := kset q 14 &&& (4294967295 - kset p 14)
def covB (p q : Int → Bool) : Bool := offN p q == 0
def bothN (p q : Int → Bool) : Nat := kset p 14 &&& kset q 14
def meeB (p q : Int → Bool) : Bool := bothN p q != 0
theorem off_bits (p q : Int → Bool) : bits .andNot .u32 ((kset q 14 : Nat) : Int) ((kset p 14 : Nat) : Int) = ((offN p q : Nat) : Int) :=
  u32_andNot_nat _ _ (Nat.lt_trans (kset_lt q 14) (by decide)) (Nat.lt_trans (kset_lt p 14) (by decide))
theorem both_bits (p q : Int → Bool) : bits .and .u32 ((kset p 14 : Nat) : Int) ((kset q 14 : Nat) : Int) = ((bothN p q : Nat) : Int) :=
  u32_and_nat _ _ (Nat.lt_trans (kset_lt p 14) (by decide)) (Nat.lt_trans (kset_lt q 14) (by decide))

theorem natz (Z : Nat) : ((Z : Int) == 0) = (Z == 0) := by rw [Bool.eq_iff_iff]; simp
theorem natn (Z : Nat) : ((Z : Int) != 0) = (Z != 0) := by rw [Bool.eq_iff_iff]; simp
set_option maxRecDepth 100000 in
set_option maxHeartbeats 2000000 in
theorem coversP (n m : Nat) (t : Wt n) (r : Wt m) (v0 v1 v2 x0 x1 x2 : Value) (w : World) (hr : RepW w n [v0, v1, v2] t) (hx : RepW w m [x0, x1, x2] r) (hg : wgt n t = true) (hg' : wgt m r = true) :
    Calls Tryz.prog 17 #[.agg #[v0, v1, v2], .agg #[x0, x1, x2]] w fun e w' => e = .returned (.bool (covB (evk n t) (evk m r))) ∧ Below w.heap.size w w' := by
  obtain ⟨o, a, wd, wl, wc, rfl, rfl, rfl⟩ := repW_shape hr
  obtain ⟨o', a', wd', wl', wc', rfl, rfl, rfl⟩ := repW_shape hx
  have KA : Hid (∀ wx, Tw w (.int .i64 o) (.int .i64 a) (.slice wd wl wc) (.int .i64 o') (.int .i64 a') (.slice wd' wl' wc') wx → Calls Tryz.prog 13 #[.agg #[.int .i64 o, .int .i64 a, .slice wd wl wc]] wx fun e w' => e = .returned (.int .u32 ((kset (evk n t) 14 : Nat) : Int)) ∧ Tw w (.int .i64 o) (.int .i64 a) (.slice wd wl wc) (.int .i64 o') (.int .i64 a') (.slice wd' wl' wc') w') := fun wx h => (kinds_any n t _ _ _ wx (RepW.below h.below n _ _ hr) hg).mono fun e w' ⟨a, b⟩ => ⟨a, h.step b⟩
  have KB : Hid (∀ wx, Tw w (.int .i64 o) (.int .i64 a) (.slice wd wl wc) (.int .i64 o') (.int .i64 a') (.slice wd' wl' wc') wx → Calls Tryz.prog 13 #[.agg #[.int .i64 o', .int .i64 a', .slice wd' wl' wc']] wx fun e w' => e = .returned (.int .u32 ((kset (evk m r) 14 : Nat) : Int)) ∧ Tw w (.int .i64 o) (.int .i64 a) (.slice wd wl wc) (.int .i64 o') (.int .i64 a') (.slice wd' wl' wc') w') := fun wx h => (kinds_any m r _ _ _ wx (RepW.below h.below m _ _ hx) hg').mono fun e w' ⟨a, b⟩ => ⟨a, h.step b⟩
  have HS : Hid (∀ wx, Tw w (.int .i64 o) (.int .i64 a) (.slice wd wl wc) (.int .i64 o') (.int .i64 a') (.slice wd' wl' wc') wx → (wx.cell? ⟨w.heap.size, 0, none⟩ = some (.int .i64 o) ∧ wx.cell? ⟨w.heap.size, 1, none⟩ = some (.int .i64 a) ∧ wx.cell? ⟨w.heap.size, 2, none⟩ = some (.slice wd wl wc)) ∧ wx.cell? ⟨w.heap.size + 1, 0, none⟩ = some (.int .i64 o') ∧ wx.cell? ⟨w.heap.size + 1, 1, none⟩ = some (.int .i64 a') ∧ wx.cell? ⟨w.heap.size + 1, 2, none⟩ = some (.slice wd' wl' wc')) := fun wx h => h.c
  have hb0 := Tw.start w (.int .i64 o) (.int .i64 a) (.slice wd wl wc) (.int .i64 o') (.int .i64 a') (.slice wd' wl' wc')
  have ho := off_bits (evk n t) (evk m r)
  unfold covB
  generalize offN (evk n t) (evk m r) = Z at ho
  generalize kset (evk n t) 14 = X at KA ho
  generalize kset (evk m r) 14 = Y at KB ho
  clear hr hx hg hg'
  go_enter Tryz.func17, Tryz.ntmps17
  go_wp2_with fail
  go_region_held3 (fun wx => (wx.cell? ⟨w.heap.size, 0, none⟩ = some (.int .i64 o) ∧ wx.cell? ⟨w.heap.size, 1, none⟩ = some (.int .i64 a) ∧ wx.cell? ⟨w.heap.size, 2, none⟩ = some (.slice wd wl wc)) ∧ wx.cell? ⟨w.heap.size + 1, 0, none⟩ = some (.int .i64 o') ∧ wx.cell? ⟨w.heap.size + 1, 1, none⟩ = some (.int .i64 a') ∧ wx.cell? ⟨w.heap.size + 1, 2, none⟩ = some (.slice wd' wl' wc')) (exact HS.out _ (by first | assumption | exact Tw.drew (by assumption))) (first | (go_at_call 13; with_reducible refine (KA.out _ (by first | assumption | exact Tw.drew (by assumption))).mono ?_; rintro e wa ⟨rfl, ba⟩) | (go_at_call 13; with_reducible refine (KB.out _ (by first | assumption | exact Tw.drew (by assumption))).mono ?_; rintro e wc ⟨rfl, bc⟩))
  all_goals go_wp2
  all_goals go_ret
  all_goals exact ⟨ret_b (natz Z), Tw.below (by first | assumption | exact Tw.drew (by assumption))⟩
set_option maxRecDepth 100000 in
set_option maxHeartbeats 2000000 in
theorem meetsP (n m : Nat) (t : Wt n) (r : Wt m) (v0 v1 v2 x0 x1 x2 : Value) (w : World) (hr : RepW w n [v0, v1, v2] t) (hx : RepW w m [x0, x1, x2] r) (hg : wgt n t = true) (hg' : wgt m r = true) :
    Calls Tryz.prog 19 #[.agg #[v0, v1, v2], .agg #[x0, x1, x2]] w fun e w' => e = .returned (.bool (meeB (evk n t) (evk m r))) ∧ Below w.heap.size w w' := by
  obtain ⟨o, a, wd, wl, wc, rfl, rfl, rfl⟩ := repW_shape hr
  obtain ⟨o', a', wd', wl', wc', rfl, rfl, rfl⟩ := repW_shape hx
  have KA : Hid (∀ wx, Tw w (.int .i64 o) (.int .i64 a) (.slice wd wl wc) (.int .i64 o') (.int .i64 a') (.slice wd' wl' wc') wx → Calls Tryz.prog 13 #[.agg #[.int .i64 o, .int .i64 a, .slice wd wl wc]] wx fun e w' => e = .returned (.int .u32 ((kset (evk n t) 14 : Nat) : Int)) ∧ Tw w (.int .i64 o) (.int .i64 a) (.slice wd wl wc) (.int .i64 o') (.int .i64 a') (.slice wd' wl' wc') w') := fun wx h => (kinds_any n t _ _ _ wx (RepW.below h.below n _ _ hr) hg).mono fun e w' ⟨a, b⟩ => ⟨a, h.step b⟩
  have KB : Hid (∀ wx, Tw w (.int .i64 o) (.int .i64 a) (.slice wd wl wc) (.int .i64 o') (.int .i64 a') (.slice wd' wl' wc') wx → Calls Tryz.prog 13 #[.agg #[.int .i64 o', .int .i64 a', .slice wd' wl' wc']] wx fun e w' => e = .returned (.int .u32 ((kset (evk m r) 14 : Nat) : Int)) ∧ Tw w (.int .i64 o) (.int .i64 a) (.slice wd wl wc) (.int .i64 o') (.int .i64 a') (.slice wd' wl' wc') w') := fun wx h => (kinds_any m r _ _ _ wx (RepW.below h.below m _ _ hx) hg').mono fun e w' ⟨a, b⟩ => ⟨a, h.step b⟩
  have HS : Hid (∀ wx, Tw w (.int .i64 o) (.int .i64 a) (.slice wd wl wc) (.int .i64 o') (.int .i64 a') (.slice wd' wl' wc') wx → (wx.cell? ⟨w.heap.size, 0, none⟩ = some (.int .i64 o) ∧ wx.cell? ⟨w.heap.size, 1, none⟩ = some (.int .i64 a) ∧ wx.cell? ⟨w.heap.size, 2, none⟩ = some (.slice wd wl wc)) ∧ wx.cell? ⟨w.heap.size + 1, 0, none⟩ = some (.int .i64 o') ∧ wx.cell? ⟨w.heap.size + 1, 1, none⟩ = some (.int .i64 a') ∧ wx.cell? ⟨w.heap.size + 1, 2, none⟩ = some (.slice wd' wl' wc')) := fun wx h => h.c
  have hb0 := Tw.start w (.int .i64 o) (.int .i64 a) (.slice wd wl wc) (.int .i64 o') (.int .i64 a') (.slice wd' wl' wc')
  have ho := both_bits (evk n t) (evk m r)
  unfold meeB
  generalize bothN (evk n t) (evk m r) = Z at ho
  generalize kset (evk n t) 14 = X at KA ho
  generalize kset (evk m r) 14 = Y at KB ho
  clear hr hx hg hg'
  go_enter Tryz.func19, Tryz.ntmps19
  go_wp2_with fail
  go_region_held3 (fun wx => (wx.cell? ⟨w.heap.size, 0, none⟩ = some (.int .i64 o) ∧ wx.cell? ⟨w.heap.size, 1, none⟩ = some (.int .i64 a) ∧ wx.cell? ⟨w.heap.size, 2, none⟩ = some (.slice wd wl wc)) ∧ wx.cell? ⟨w.heap.size + 1, 0, none⟩ = some (.int .i64 o') ∧ wx.cell? ⟨w.heap.size + 1, 1, none⟩ = some (.int .i64 a') ∧ wx.cell? ⟨w.heap.size + 1, 2, none⟩ = some (.slice wd' wl' wc')) (exact HS.out _ (by first | assumption | exact Tw.drew (by assumption))) (first | (go_at_call 13; with_reducible refine (KA.out _ (by first | assumption | exact Tw.drew (by assumption))).mono ?_; rintro e wa ⟨rfl, ba⟩) | (go_at_call 13; with_reducible refine (KB.out _ (by first | assumption | exact Tw.drew (by assumption))).mono ?_; rintro e wc ⟨rfl, bc⟩))
  all_goals go_wp2
  all_goals go_ret
  all_goals exact ⟨ret_b (natn Z), Tw.below (by first | assumption | exact Tw.drew (by assumption))⟩
end Go.Proofs.YtokiaolgdkikiaaGreat
