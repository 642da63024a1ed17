/- A wrapper and a chain that are fit, by the document: what of them counts here; the conditions: the chain and its patterns where they are told to lie. -/
import Derived.Test.YtcbplamomhimiaaDoorVj
import Derived.Laws.CopyOwn
namespace Go.Proofs.YtcbplamomhimiaaDoor
open Go.RowKit

set_option maxRecDepth 100000 in
set_option maxHeartbeats 4000000 in
theorem one_any (lo hi : Int) (w : World) : Calls Tryd.prog 45 #[.int .i64 lo, .int .i64 hi] w fun e w' => e = .returned (.agg #[.int .i64 1, .int .i64 lo, .int .i64 0, .int .i64 hi, .int .i64 0, .bool false, .bool false, .bool false]) ∧ Below w.heap.size w w' := by
  go_enter Tryd.func45, Tryd.ntmps45
  go_wp2
  exact bodyPost_ret (v := .agg #[.int .i64 1, .int .i64 lo, .int .i64 0, .int .i64 hi, .int .i64 0, .bool false, .bool false, .bool false]) (by simp [results, Tryd.results45, go_sem]) rfl ⟨rfl, by first | exact below1 _ _ | exact (below1 _ _).setCell (by simp) _⟩
set_option maxRecDepth 100000 in
set_option maxHeartbeats 4000000 in
theorem two_any (hi lo top : Int) (w : World) : Calls Tryd.prog 53 #[.int .i64 hi, .int .i64 lo, .int .i64 top] w fun e w' => e = .returned (.agg #[.int .i64 2, .int .i64 1, .int .i64 lo, .int .i64 hi, .int .i64 top, .bool false, .bool false, .bool false]) ∧ Below w.heap.size w w' := by
  go_enter Tryd.func53, Tryd.ntmps53
  go_wp2
  exact bodyPost_ret (v := .agg #[.int .i64 2, .int .i64 1, .int .i64 lo, .int .i64 hi, .int .i64 top, .bool false, .bool false, .bool false]) (by simp [results, Tryd.results53, go_sem]) rfl ⟨rfl, by first | exact below1 _ _ | exact (below1 _ _).setCell (by simp) _⟩
/-- The row's block, as it is made. -/
def rz : Obj := .cells #[.int .i64 0, .int .i64 0, .int .i64 0, .int .i64 0, .int .i64 0, .bool false, .bool false, .bool false] 74
theorem On.at {w w' : World} {o : Obj} (h : On w o w') : w'.heap[w.heap.size]? = some o := (Below.block h w.heap.size (by omega)).trans (heap_alloc_new w _)
def RowC (o : Int) : Prop := ∃ (N l0 l1 h0 h1 : Int) (c1 c2 c3 : Bool), ∀ w, Calls Tryd.prog 44 #[.int .i64 o] w fun e w' => e = .returned (.agg #[.int .i64 N, .int .i64 l0, .int .i64 l1, .int .i64 h0, .int .i64 h1, .bool c1, .bool c2, .bool c3]) ∧ Below w.heap.size w w'
set_option maxRecDepth 100000 in
set_option maxHeartbeats 4000000 in
theorem row1 : RowC 1 := by
  refine ⟨0, 0, 0, 0, 0, false, false, false, fun w => ?_⟩
  go_enter Tryd.func44, Tryd.ntmps44
  go_wp2
  exact bodyPost_ret (v := .agg #[.int .i64 0, .int .i64 0, .int .i64 0, .int .i64 0, .int .i64 0, .bool false, .bool false, .bool false]) (by simp [results, Tryd.results44, go_sem]) rfl ⟨rfl, by first | exact below1 _ _ | exact (below1 _ _).setCell (by simp) _⟩
set_option maxRecDepth 100000 in
set_option maxHeartbeats 4000000 in
theorem row2 : RowC 2 := by
  refine ⟨0, 0, 0, 0, 0, true, false, false, fun w => ?_⟩
  go_enter Tryd.func44, Tryd.ntmps44
  go_wp2
  exact bodyPost_ret (v := .agg #[.int .i64 0, .int .i64 0, .int .i64 0, .int .i64 0, .int .i64 0, .bool true, .bool false, .bool false]) (by simp [results, Tryd.results44, go_sem]) rfl ⟨rfl, by first | exact below1 _ _ | exact (below1 _ _).setCell (by simp) _⟩
set_option maxRecDepth 100000 in
set_option maxHeartbeats 4000000 in
theorem row3 : RowC 3 := by
  refine ⟨0, 0, 0, 0, 0, false, false, false, fun w => ?_⟩
  go_enter Tryd.func44, Tryd.ntmps44
  go_wp2
  exact bodyPost_ret (v := .agg #[.int .i64 0, .int .i64 0, .int .i64 0, .int .i64 0, .int .i64 0, .bool false, .bool false, .bool false]) (by simp [results, Tryd.results44, go_sem]) rfl ⟨rfl, by first | exact below1 _ _ | exact (below1 _ _).setCell (by simp) _⟩
set_option maxRecDepth 100000 in
set_option maxHeartbeats 4000000 in
theorem row4 : RowC 4 := by
  refine ⟨0, 0, 0, 0, 0, true, false, false, fun w => ?_⟩
  go_enter Tryd.func44, Tryd.ntmps44
  go_wp2
  exact bodyPost_ret (v := .agg #[.int .i64 0, .int .i64 0, .int .i64 0, .int .i64 0, .int .i64 0, .bool true, .bool false, .bool false]) (by simp [results, Tryd.results44, go_sem]) rfl ⟨rfl, by first | exact below1 _ _ | exact (below1 _ _).setCell (by simp) _⟩
set_option maxRecDepth 100000 in
set_option maxHeartbeats 4000000 in
theorem row5 : RowC 5 := by
  refine ⟨1, 1, 0, 16, 0, false, false, false, fun w => ?_⟩
  have K : Hid (∀ wx, On w rz wx → Calls Tryd.prog 45 #[.int .i64 1, .int .i64 16] wx fun e w' => e = .returned (.agg #[.int .i64 1, .int .i64 1, .int .i64 0, .int .i64 16, .int .i64 0, .bool false, .bool false, .bool false]) ∧ On w rz w') := fun wx hx => (one_any 1 16 wx).mono fun e w' ⟨a, b⟩ => ⟨a, hx.step b⟩
  have b0 := On.start w rz
  go_enter Tryd.func44, Tryd.ntmps44
  go_wp2_with (first
    | (go_at_call 45; refine (K.out _ b0).mono ?_; rintro e w2 ⟨rfl, b2⟩)
    | (refine wpList_store_row rfl 74 _ _ rfl w.heap.size #[.int .i64 1, .int .i64 1, .int .i64 0, .int .i64 16, .int .i64 0, .bool false, .bool false, .bool false] rfl rfl 74 #[.int .i64 0, .int .i64 0, .int .i64 0, .int .i64 0, .int .i64 0, .bool false, .bool false, .bool false] (b2.at) (by kernel_rfl) rfl (by simp [Value.oneCell']) ?_))
  have q := setRow_heap w2 w.heap.size _ #[.int .i64 1, .int .i64 1, .int .i64 0, .int .i64 16, .int .i64 0, .bool false, .bool false, .bool false] 74 (0, 0) b2.at
  refine bodyPost_ret (v := .agg #[.int .i64 1, .int .i64 1, .int .i64 0, .int .i64 16, .int .i64 0, .bool false, .bool false, .bool false]) ?_ rfl ⟨rfl, below_setRow b2.below (Nat.le_refl _) _⟩
  simp [results, Tryd.results44, go_sem, World.cell?, q]
set_option maxRecDepth 100000 in
set_option maxHeartbeats 4000000 in
theorem row6 : RowC 6 := by
  refine ⟨2, 1, 1, 1000000, 1000000, false, false, false, fun w => ?_⟩
  have K : Hid (∀ wx, On w rz wx → Calls Tryd.prog 53 #[.int .i64 1000000, .int .i64 1, .int .i64 1000000] wx fun e w' => e = .returned (.agg #[.int .i64 2, .int .i64 1, .int .i64 1, .int .i64 1000000, .int .i64 1000000, .bool false, .bool false, .bool false]) ∧ On w rz w') := fun wx hx => (two_any 1000000 1 1000000 wx).mono fun e w' ⟨a, b⟩ => ⟨a, hx.step b⟩
  have b0 := On.start w rz
  go_enter Tryd.func44, Tryd.ntmps44
  go_wp2_with (first
    | (go_at_call 53; refine (K.out _ b0).mono ?_; rintro e w2 ⟨rfl, b2⟩)
    | (refine wpList_store_row rfl 74 _ _ rfl w.heap.size #[.int .i64 2, .int .i64 1, .int .i64 1, .int .i64 1000000, .int .i64 1000000, .bool false, .bool false, .bool false] rfl rfl 74 #[.int .i64 0, .int .i64 0, .int .i64 0, .int .i64 0, .int .i64 0, .bool false, .bool false, .bool false] (b2.at) (by kernel_rfl) rfl (by simp [Value.oneCell']) ?_))
  have q := setRow_heap w2 w.heap.size _ #[.int .i64 2, .int .i64 1, .int .i64 1, .int .i64 1000000, .int .i64 1000000, .bool false, .bool false, .bool false] 74 (0, 0) b2.at
  refine bodyPost_ret (v := .agg #[.int .i64 2, .int .i64 1, .int .i64 1, .int .i64 1000000, .int .i64 1000000, .bool false, .bool false, .bool false]) ?_ rfl ⟨rfl, below_setRow b2.below (Nat.le_refl _) _⟩
  simp [results, Tryd.results44, go_sem, World.cell?, q]
set_option maxRecDepth 100000 in
set_option maxHeartbeats 4000000 in
theorem row7 : RowC 7 := by
  refine ⟨2, 1, 1, 1000, 1000000, false, false, false, fun w => ?_⟩
  have K : Hid (∀ wx, On w rz wx → Calls Tryd.prog 53 #[.int .i64 1000, .int .i64 1, .int .i64 1000000] wx fun e w' => e = .returned (.agg #[.int .i64 2, .int .i64 1, .int .i64 1, .int .i64 1000, .int .i64 1000000, .bool false, .bool false, .bool false]) ∧ On w rz w') := fun wx hx => (two_any 1000 1 1000000 wx).mono fun e w' ⟨a, b⟩ => ⟨a, hx.step b⟩
  have b0 := On.start w rz
  go_enter Tryd.func44, Tryd.ntmps44
  go_wp2_with (first
    | (go_at_call 53; refine (K.out _ b0).mono ?_; rintro e w2 ⟨rfl, b2⟩)
    | (refine wpList_store_row rfl 74 _ _ rfl w.heap.size #[.int .i64 2, .int .i64 1, .int .i64 1, .int .i64 1000, .int .i64 1000000, .bool false, .bool false, .bool false] rfl rfl 74 #[.int .i64 0, .int .i64 0, .int .i64 0, .int .i64 0, .int .i64 0, .bool false, .bool false, .bool false] (b2.at) (by kernel_rfl) rfl (by simp [Value.oneCell']) ?_))
  have q := setRow_heap w2 w.heap.size _ #[.int .i64 2, .int .i64 1, .int .i64 1, .int .i64 1000, .int .i64 1000000, .bool false, .bool false, .bool false] 74 (0, 0) b2.at
  refine bodyPost_ret (v := .agg #[.int .i64 2, .int .i64 1, .int .i64 1, .int .i64 1000, .int .i64 1000000, .bool false, .bool false, .bool false]) ?_ rfl ⟨rfl, below_setRow b2.below (Nat.le_refl _) _⟩
  simp [results, Tryd.results44, go_sem, World.cell?, q]
set_option maxRecDepth 100000 in
set_option maxHeartbeats 4000000 in
theorem row8 : RowC 8 := by
  refine ⟨1, 1, 0, 4096, 0, false, false, false, fun w => ?_⟩
  have K : Hid (∀ wx, On w rz wx → Calls Tryd.prog 45 #[.int .i64 1, .int .i64 4096] wx fun e w' => e = .returned (.agg #[.int .i64 1, .int .i64 1, .int .i64 0, .int .i64 4096, .int .i64 0, .bool false, .bool false, .bool false]) ∧ On w rz w') := fun wx hx => (one_any 1 4096 wx).mono fun e w' ⟨a, b⟩ => ⟨a, hx.step b⟩
  have b0 := On.start w rz
  go_enter Tryd.func44, Tryd.ntmps44
  go_wp2_with (first
    | (go_at_call 45; refine (K.out _ b0).mono ?_; rintro e w2 ⟨rfl, b2⟩)
    | (refine wpList_store_row rfl 74 _ _ rfl w.heap.size #[.int .i64 1, .int .i64 1, .int .i64 0, .int .i64 4096, .int .i64 0, .bool false, .bool false, .bool false] rfl rfl 74 #[.int .i64 0, .int .i64 0, .int .i64 0, .int .i64 0, .int .i64 0, .bool false, .bool false, .bool false] (b2.at) (by kernel_rfl) rfl (by simp [Value.oneCell']) ?_))
  have q := setRow_heap w2 w.heap.size _ #[.int .i64 1, .int .i64 1, .int .i64 0, .int .i64 4096, .int .i64 0, .bool false, .bool false, .bool false] 74 (0, 0) b2.at
  refine bodyPost_ret (v := .agg #[.int .i64 1, .int .i64 1, .int .i64 0, .int .i64 4096, .int .i64 0, .bool false, .bool false, .bool false]) ?_ rfl ⟨rfl, below_setRow b2.below (Nat.le_refl _) _⟩
  simp [results, Tryd.results44, go_sem, World.cell?, q]
set_option maxRecDepth 100000 in
set_option maxHeartbeats 4000000 in
theorem row9 : RowC 9 := by
  refine ⟨2, 1, 0, 1000, 1000000, false, false, false, fun w => ?_⟩
  have K : Hid (∀ wx, On w rz wx → Calls Tryd.prog 53 #[.int .i64 1000, .int .i64 0, .int .i64 1000000] wx fun e w' => e = .returned (.agg #[.int .i64 2, .int .i64 1, .int .i64 0, .int .i64 1000, .int .i64 1000000, .bool false, .bool false, .bool false]) ∧ On w rz w') := fun wx hx => (two_any 1000 0 1000000 wx).mono fun e w' ⟨a, b⟩ => ⟨a, hx.step b⟩
  have b0 := On.start w rz
  go_enter Tryd.func44, Tryd.ntmps44
  go_wp2_with (first
    | (go_at_call 53; refine (K.out _ b0).mono ?_; rintro e w2 ⟨rfl, b2⟩)
    | (refine wpList_store_row rfl 74 _ _ rfl w.heap.size #[.int .i64 2, .int .i64 1, .int .i64 0, .int .i64 1000, .int .i64 1000000, .bool false, .bool false, .bool false] rfl rfl 74 #[.int .i64 0, .int .i64 0, .int .i64 0, .int .i64 0, .int .i64 0, .bool false, .bool false, .bool false] (b2.at) (by kernel_rfl) rfl (by simp [Value.oneCell']) ?_))
  have q := setRow_heap w2 w.heap.size _ #[.int .i64 2, .int .i64 1, .int .i64 0, .int .i64 1000, .int .i64 1000000, .bool false, .bool false, .bool false] 74 (0, 0) b2.at
  refine bodyPost_ret (v := .agg #[.int .i64 2, .int .i64 1, .int .i64 0, .int .i64 1000, .int .i64 1000000, .bool false, .bool false, .bool false]) ?_ rfl ⟨rfl, below_setRow b2.below (Nat.le_refl _) _⟩
  simp [results, Tryd.results44, go_sem, World.cell?, q]
set_option maxRecDepth 100000 in
set_option maxHeartbeats 4000000 in
theorem row10 : RowC 10 := by
  refine ⟨0, 0, 0, 0, 0, false, true, false, fun w => ?_⟩
  go_enter Tryd.func44, Tryd.ntmps44
  go_wp2
  exact bodyPost_ret (v := .agg #[.int .i64 0, .int .i64 0, .int .i64 0, .int .i64 0, .int .i64 0, .bool false, .bool true, .bool false]) (by simp [results, Tryd.results44, go_sem]) rfl ⟨rfl, by first | exact below1 _ _ | exact (below1 _ _).setCell (by simp) _⟩
set_option maxRecDepth 100000 in
set_option maxHeartbeats 4000000 in
theorem row11 : RowC 11 := by
  refine ⟨0, 0, 0, 0, 0, false, false, true, fun w => ?_⟩
  go_enter Tryd.func44, Tryd.ntmps44
  go_wp2
  exact bodyPost_ret (v := .agg #[.int .i64 0, .int .i64 0, .int .i64 0, .int .i64 0, .int .i64 0, .bool false, .bool false, .bool true]) (by simp [results, Tryd.results44, go_sem]) rfl ⟨rfl, by first | exact below1 _ _ | exact (below1 _ _).setCell (by simp) _⟩
set_option maxRecDepth 100000 in
set_option maxHeartbeats 4000000 in
theorem row12 : RowC 12 := by
  refine ⟨1, 1, 0, 1000000, 0, false, false, false, fun w => ?_⟩
  have K : Hid (∀ wx, On w rz wx → Calls Tryd.prog 45 #[.int .i64 1, .int .i64 1000000] wx fun e w' => e = .returned (.agg #[.int .i64 1, .int .i64 1, .int .i64 0, .int .i64 1000000, .int .i64 0, .bool false, .bool false, .bool false]) ∧ On w rz w') := fun wx hx => (one_any 1 1000000 wx).mono fun e w' ⟨a, b⟩ => ⟨a, hx.step b⟩
  have b0 := On.start w rz
  go_enter Tryd.func44, Tryd.ntmps44
  go_wp2_with (first
    | (go_at_call 45; refine (K.out _ b0).mono ?_; rintro e w2 ⟨rfl, b2⟩)
    | (refine wpList_store_row rfl 74 _ _ rfl w.heap.size #[.int .i64 1, .int .i64 1, .int .i64 0, .int .i64 1000000, .int .i64 0, .bool false, .bool false, .bool false] rfl rfl 74 #[.int .i64 0, .int .i64 0, .int .i64 0, .int .i64 0, .int .i64 0, .bool false, .bool false, .bool false] (b2.at) (by kernel_rfl) rfl (by simp [Value.oneCell']) ?_))
  have q := setRow_heap w2 w.heap.size _ #[.int .i64 1, .int .i64 1, .int .i64 0, .int .i64 1000000, .int .i64 0, .bool false, .bool false, .bool false] 74 (0, 0) b2.at
  refine bodyPost_ret (v := .agg #[.int .i64 1, .int .i64 1, .int .i64 0, .int .i64 1000000, .int .i64 0, .bool false, .bool false, .bool false]) ?_ rfl ⟨rfl, below_setRow b2.below (Nat.le_refl _) _⟩
  simp [results, Tryd.results44, go_sem, World.cell?, q]
theorem row_any (o : Int) (h1 : 1 ≤ o) (h2 : o < 13) : RowC o := by
  have : o = 1 ∨ o = 2 ∨ o = 3 ∨ o = 4 ∨ o = 5 ∨ o = 6 ∨ o = 7 ∨ o = 8 ∨ o = 9 ∨ o = 10 ∨ o = 11 ∨ o = 12 := by omega
  rcases this with rfl | rfl | rfl | rfl | rfl | rfl | rfl | rfl | rfl | rfl | rfl | rfl
  · exact row1
  · exact row2
  · exact row3
  · exact row4
  · exact row5
  · exact row6
  · exact row7
  · exact row8
  · exact row9
  · exact row10
  · exact row11
  · exact row12
set_option maxRecDepth 100000 in
set_option maxHeartbeats 4000000 in
theorem maps_any (w : World) : Calls Tryd.prog 46 #[] w fun e w' => ∃ b, e = .returned (.slice (some ⟨b, 0, none⟩) 9 9) ∧ Below w.heap.size w w' := by
  go_enter Tryd.func46, Tryd.ntmps46
  go_wp2
  go_ret
  exact ⟨w.heap.size, rfl, below1 _ _⟩
end Go.Proofs.YtcbplamomhimiaaDoor
