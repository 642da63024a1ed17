/- The law's awake: true; what is asked of the world: the table of words as its text lays it. -/
import Derived.Test.YtcbplamomhimiaaDoorUw
namespace Go.Proofs.YtcbplamomhimiaaDoor
open Go.RowKit

/-- The wrappers of the chain that awake makes. -/
def aq : List Wq := [⟨⟨2, 1, false⟩, 0, 0, 0, 0, none, 0, 0⟩, ⟨⟨7, 0, false⟩, 1, 1, 0, 0, none, 0, 0⟩]
def acs : Array Value := #[.int .i64 2, .int .i64 0, .int .i64 0, .int .u32 1, .int .i64 0, .int .i64 0, .slice none 0 0, .bool false, .int .i64 7, .int .i64 1, .int .i64 1, .int .u32 0, .int .i64 0, .int .i64 0, .slice none 0 0, .bool false]
theorem aq_row {W : World} {g : Nat} {t : TypeId} (h : W.heap[g]? = some (.cells acs t (0, 0))) : WRow W (some ⟨g, 0, none⟩) aq := by
  refine .inr ⟨g, 0, rfl, (Array.getElem?_eq_some_iff.1 h).1, fun j q hj i hi => ?_⟩
  rw [cell_at h]
  have hj2 : j < 2 := (List.getElem?_eq_some_iff.1 hj).1
  have : j = 0 ∨ j = 1 := by omega
  rcases this with rfl | rfl
  · cases hj
    have : i = 0 ∨ i = 1 ∨ i = 2 ∨ i = 3 ∨ i = 4 ∨ i = 5 ∨ i = 6 ∨ i = 7 := by omega
    rcases this with rfl | rfl | rfl | rfl | rfl | rfl | rfl | rfl <;> rfl
  · cases hj
    have : i = 0 ∨ i = 1 ∨ i = 2 ∨ i = 3 ∨ i = 4 ∨ i = 5 ∨ i = 6 ∨ i = 7 := by omega
    rcases this with rfl | rfl | rfl | rfl | rfl | rfl | rfl | rfl <;> rfl
theorem aq_ok {W : World} {g : Nat} {t : TypeId} (h : W.heap[g]? = some (.cells acs t (0, 0))) (hN : Wds W) : ChOk W 3 (some ⟨g, 0, none⟩) aq :=
  ⟨by decide, fun q hq => by
    have : q = ⟨⟨2, 1, false⟩, 0, 0, 0, 0, none, 0, 0⟩ ∨ q = ⟨⟨7, 0, false⟩, 1, 1, 0, 0, none, 0, 0⟩ := by simpa [aq] using hq
    rcases this with rfl | rfl
    · exact ⟨by decide, by decide, by decide⟩
    · exact ⟨by decide, by decide, by decide⟩, by decide, aq_row h, hN⟩
theorem a_sh : sh 3 (rv aq 2) = 17 := by decide
theorem a_w4 : who 3 (rv aq 2) 4 = 2 := by decide
theorem a_w0 : who 3 (rv aq 2) 0 = 0 := by decide
set_option maxRecDepth 100000 in
set_option maxHeartbeats 4000000 in
theorem awake_any (w : World) (hN : Wds w) : Calls Tryd.prog 10 #[] w fun e w' => e = .returned (.bool true) ∧ Below w.heap.size w w' := by
  have hb1 := below1 w (.cells acs 35)
  have hc : ChOk (w.alloc (.cells acs 35)) 3 (some ⟨w.heap.size, 0, none⟩) aq := aq_ok (heap_alloc_new _ _) (hN.below hb1)
  generalize hw1 : w.alloc (.cells acs 35) = w1 at hb1 hc
  have HW := Lib.hid hw1
  clear hw1
  have b0 := On.start w1 (.cells #[.int .i64 1, .int .i64 0, .int .u32 3, .slice (some ⟨w.heap.size, 0, none⟩) 2 2] 28)
  have KS : Hid (∀ wx, On w1 (.cells #[.int .i64 1, .int .i64 0, .int .u32 3, .slice (some ⟨w.heap.size, 0, none⟩) 2 2] 28) wx → Calls Tryd.prog 16 #[.agg #[.int .i64 1, .int .i64 0, .int .u32 3, .slice (some ⟨w.heap.size, 0, none⟩) 2 2]] wx fun e w' => e = .returned (.int .u32 17) ∧ On w1 (.cells #[.int .i64 1, .int .i64 0, .int .u32 3, .slice (some ⟨w.heap.size, 0, none⟩) 2 2] 28) w') := fun wx hx => (shown_any 1 0 3 aq _ 2 wx (hc.below hx.below)).mono fun e w' ⟨a, b⟩ => ⟨by rw [a]; show Ending.returned (.int .u32 ((sh 3 (rv aq 2) : Nat) : Int)) = _; rw [a_sh]; rfl, hx.step b⟩
  have KW : Hid (∀ (k : Int) wx, On w1 (.cells #[.int .i64 1, .int .i64 0, .int .u32 3, .slice (some ⟨w.heap.size, 0, none⟩) 2 2] 28) wx → Calls Tryd.prog 20 #[.agg #[.int .i64 1, .int .i64 0, .int .u32 3, .slice (some ⟨w.heap.size, 0, none⟩) 2 2], .int .i64 k] wx fun e w' => e = .returned (.int .i64 (who 3 (rv aq 2) k)) ∧ On w1 (.cells #[.int .i64 1, .int .i64 0, .int .u32 3, .slice (some ⟨w.heap.size, 0, none⟩) 2 2] 28) w') := fun k wx hx => (pwho_any 1 0 3 aq _ 2 k wx (hc.below hx.below)).mono fun e w' ⟨a, b⟩ => ⟨a, hx.step b⟩
  have HS : Hid (∀ wx, On w1 (.cells #[.int .i64 1, .int .i64 0, .int .u32 3, .slice (some ⟨w.heap.size, 0, none⟩) 2 2] 28) wx → wx.cell? ⟨w1.heap.size, 0, none⟩ = some (.int .i64 1) ∧ wx.cell? ⟨w1.heap.size, 1, none⟩ = some (.int .i64 0) ∧ wx.cell? ⟨w1.heap.size, 2, none⟩ = some (.int .u32 3) ∧ wx.cell? ⟨w1.heap.size, 3, none⟩ = some (.slice (some ⟨w.heap.size, 0, none⟩) 2 2)) := fun wx h => ⟨h.cell 0, h.cell 1, h.cell 2, h.cell 3⟩
  have a4 := a_w4
  have a0 := a_w0
  clear hc hN
  obtain rfl := HW.out
  unfold acs at *
  rw [World.size_alloc] at *
  go_enter Tryd.func10, Tryd.ntmps10
  go_wp2_with (first
    | (go_at_call 16; refine (KS.out _ b0).mono ?_; rintro e w2 ⟨rfl, b2⟩; obtain ⟨x0, x1, x2, x3⟩ := HS.out _ b2)
    | (go_at_call 20; refine (KW.out _ _ (by assumption)).mono ?_; rintro e w3 ⟨rfl, b3⟩; obtain ⟨y0, y1, y2, y3⟩ := HS.out _ b3))
  go_ret
  exact ⟨rfl, hb1.trans (On.below (by assumption) |>.mono hb1.size)⟩
end Go.Proofs.YtcbplamomhimiaaDoor
