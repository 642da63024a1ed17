/- The package's Holds, Covers and Meets at right patterns; the conditions: the patterns' trees lie in memory and are right, the value's kind is one. -/
import Derived.Test.YtkgbpildikjoiaaGreatDoorFit
namespace Go.Proofs.YtkgbpildikjoiaaGreatDoor
open Go.RowKit

theorem OneD.drew {w : World} {v0 v1 v2 : Value} {k i b : Int} {s : ByteArray} {ad : Option Addr} {len cap : Nat} {w' : World} (h : OneD w v0 v1 v2 k i b s ad len cap w') : OneD w v0 v1 v2 k i b s ad len cap w'.drew := Below.drew h
theorem OneD.below {w : World} {v0 v1 v2 : Value} {k i b : Int} {s : ByteArray} {ad : Option Addr} {len cap : Nat} {w' : World} (h : OneD w v0 v1 v2 k i b s ad len cap w') : Below w.heap.size w w' := (below2 w _ _).trans (Below.mono h (by omega))
theorem OneD.step {w : World} {v0 v1 v2 : Value} {k i b : Int} {s : ByteArray} {ad : Option Addr} {len cap : Nat} {w1 w2 : World} (h : OneD w v0 v1 v2 k i b s ad len cap w1) (hb : Below w1.heap.size w1 w2) : OneD w v0 v1 v2 k i b s ad len cap w2 := by
  have := Below.size h
  simp at this
  exact Below.trans h (hb.mono (by omega))
theorem OneD.start (w : World) (v0 v1 v2 : Value) (k i b : Int) (s : ByteArray) (ad : Option Addr) (len cap : Nat) : OneD w v0 v1 v2 k i b s ad len cap ((w.alloc (.cells #[v0, v1, v2] 43)).alloc (.cells #[.int .i64 k, .int .i64 i, .int .u64 b, .string s, .slice ad len cap] 26)) := Below.refl _ _
theorem OneD.c {w : World} {v0 v1 v2 : Value} {k i b : Int} {s : ByteArray} {ad : Option Addr} {len cap : Nat} {w' : World} (h : OneD w v0 v1 v2 k i b s ad len cap w') :
    w'.cell? ⟨w.heap.size, 0, none⟩ = some v0 ∧ w'.cell? ⟨w.heap.size, 1, none⟩ = some v1 ∧ w'.cell? ⟨w.heap.size, 2, none⟩ = some v2 ∧ w'.cell? ⟨w.heap.size + 1, 0, none⟩ = some (.int .i64 k) := by
  have e0 := heap_alloc_new w (.cells #[v0, v1, v2] 43)
  have e1 := heap_alloc_new (w.alloc (.cells #[v0, v1, v2] 43)) (.cells #[.int .i64 k, .int .i64 i, .int .u64 b, .string s, .slice ad len cap] 26)
  simp only [World.size_alloc] at e1
  have h0 : w'.heap[w.heap.size]? = some (.cells #[v0, v1, v2] 43 (0, 0)) := (Below.block h w.heap.size (by omega)).trans (((below1 _ _).block _ (by simp)).trans e0)
  have h1 : w'.heap[w.heap.size + 1]? = some (.cells #[.int .i64 k, .int .i64 i, .int .u64 b, .string s, .slice ad len cap] 26 (0, 0)) := (Below.block h (w.heap.size + 1) (by omega)).trans e1
  simp [World.cell?, h0, h1]

set_option maxRecDepth 100000 in
set_option maxHeartbeats 2000000 in
theorem holdsP (n : Nat) (t : Wt n) (v0 v1 v2 : Value) (k i b : Int) (s : ByteArray) (ad : Option Addr) (len cap : Nat) (w : World) (hr : RepW w n [v0, v1, v2] t) (hg : wgt n t = true) (k0 : 0 ≤ k) (k1 : k ≤ 13) :
    Calls Tryz.prog 58 #[.agg #[v0, v1, v2], .agg #[.int .i64 k, .int .i64 i, .int .u64 b, .string s, .slice ad len cap]] w fun e w' => e = .returned (.bool (evk n t k)) ∧ Below w.heap.size w w' := by
  obtain ⟨o, m, wd, wl, wc, rfl, rfl, rfl⟩ := repW_shape hr
  have HK : Hid (∀ (wx : World), OneD w (.int .i64 o) (.int .i64 m) (.slice wd wl wc) k i b s ad len cap wx → Calls Tryz.prog 37 #[.int .i64 k] wx fun e w' => ∃ u, e = .returned u ∧ Kd k u ∧ OneD w (.int .i64 o) (.int .i64 m) (.slice wd wl wc) k i b s ad len cap w') := fun wx hx => (ofKind_any k wx).mono fun e w' ⟨u, a, b, c⟩ => ⟨u, a, b, hx.step c⟩
  have HH : Hid (∀ (u : Value) (wx : World), Kd k u → OneD w (.int .i64 o) (.int .i64 m) (.slice wd wl wc) k i b s ad len cap wx → Calls Tryz.prog 74 #[.agg #[.int .i64 o, .int .i64 m, .slice wd wl wc], u] wx fun e w' => e = .returned (.bool (evk n t k)) ∧ OneD w (.int .i64 o) (.int .i64 m) (.slice wd wl wc) k i b s ad len cap w') := fun u wx hu hx => (holds_any n t _ _ _ u k wx (RepW.below hx.below n _ _ hr) hg hu k0 k1).mono fun e w' ⟨a, b⟩ => ⟨a, hx.step b⟩
  have HS : Hid (∀ wx, OneD w (.int .i64 o) (.int .i64 m) (.slice wd wl wc) k i b s ad len cap wx → wx.cell? ⟨w.heap.size, 0, none⟩ = some (.int .i64 o) ∧ wx.cell? ⟨w.heap.size, 1, none⟩ = some (.int .i64 m) ∧ wx.cell? ⟨w.heap.size, 2, none⟩ = some (.slice wd wl wc) ∧ wx.cell? ⟨w.heap.size + 1, 0, none⟩ = some (.int .i64 k)) := fun wx h => h.c
  have hb0 := OneD.start w (.int .i64 o) (.int .i64 m) (.slice wd wl wc) k i b s ad len cap
  clear hr hg k0 k1
  generalize evk n t k = p at HH
  go_enter Tryz.func58, Tryz.ntmps58
  go_wp2_with fail
  go_region_held3 (fun w' => w'.cell? ⟨w.heap.size, 0, none⟩ = some (.int .i64 o) ∧ w'.cell? ⟨w.heap.size, 1, none⟩ = some (.int .i64 m) ∧ w'.cell? ⟨w.heap.size, 2, none⟩ = some (.slice wd wl wc) ∧ w'.cell? ⟨w.heap.size + 1, 0, none⟩ = some (.int .i64 k)) (exact HS.out _ (by first | assumption | exact OneD.drew (by assumption))) (first | (go_at_call 37; refine (HK.out _ (by first | assumption | exact OneD.drew (by assumption))).mono ?_; rintro e wa ⟨ua, rfl, hu, ba⟩) | (go_at_call 74; refine (HH.out _ _ (by assumption) (by first | assumption | exact OneD.drew (by assumption))).mono ?_; rintro e wc ⟨rfl, bc⟩))
  all_goals go_wp2
  all_goals go_ret
  all_goals exact ⟨rfl, OneD.below (by first | assumption | exact OneD.drew (by assumption))⟩

end Go.Proofs.YtkgbpildikjoiaaGreatDoor
