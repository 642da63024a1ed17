/- Parts of a group, in the package and in the document; no condition. -/
import Derived.Test.YtanjkljcoccblaaDoorCu
namespace Go.Proofs.YtanjkljcoccblaaDoor
open Go.RowKit Go.Maps

theorem byte0 (W : World) (b : Nat) (t : TypeId) (h : W.heap[b]? = some (.cells #[] t (0, 0))) (ht : Tryd.prog.cellsOf t = 0) : (byteOf ⟨b, 0, none⟩).run Tryd.prog W = .ok 0 W := by
  unfold byteOf
  simp [go_sem, Sem.run_bind, noView, viewAt, shape, World.shape?, getObj, Sem.run, h, ht, program]
theorem part0 (W : World) (b : Nat) (t : TypeId) (h : W.heap[b]? = some (.cells #[] t (0, 0))) (ht : Tryd.prog.cellsOf t = 0) : (partAt ⟨b, 0, none⟩ 0 0).run Tryd.prog W = .ok ⟨b, 0, none⟩ W := by
  have hb := byte0 W b t h ht
  unfold partAt
  simp only [Sem.run_bind, hb, Result.andThen, Nat.add_zero, if_true, Sem.run_pure]
theorem cells51 : Tryd.prog.cellsOf 51 = 0 := by kernel_rfl
theorem cells53 : Tryd.prog.cellsOf 53 = 0 := by kernel_rfl

set_option maxHeartbeats 1000000 in
theorem drains_any (w : World) : Calls Tryd.prog 32 #[.agg #[]] w fun e w' => e = .returned (.int .u32 3) ∧ Below w.heap.size w w' := by
  go_enter Tryd.func32, Tryd.ntmps32
  go_wp2
  go_ret
  first | exact ⟨rfl, Below.refl _ _⟩ | exact ⟨rfl, below1 _ _⟩
set_option maxHeartbeats 1000000 in
theorem keeps_any (w : World) : Calls Tryd.prog 33 #[.agg #[]] w fun e w' => e = .returned (.int .u32 192) ∧ Below w.heap.size w w' := by
  go_enter Tryd.func33, Tryd.ntmps33
  go_wp2
  go_ret
  first | exact ⟨rfl, Below.refl _ _⟩ | exact ⟨rfl, below1 _ _⟩
set_option maxHeartbeats 1000000 in
theorem steadies_any (w : World) : Calls Tryd.prog 34 #[.agg #[]] w fun e w' => e = .returned (.int .u32 48) ∧ Below w.heap.size w w' := by
  go_enter Tryd.func34, Tryd.ntmps34
  go_wp2
  go_ret
  first | exact ⟨rfl, Below.refl _ _⟩ | exact ⟨rfl, below1 _ _⟩

set_option maxRecDepth 100000 in
set_option maxHeartbeats 2000000 in
theorem lasts_any (w : World) : Calls Tryd.prog 35 #[.agg #[]] w fun e w' => e = .returned (.int .u32 240) ∧ Below w.heap.size w w' := by
  have PB : Hid (∀ W, Below (w.alloc (.cells #[] 51)).heap.size (w.alloc (.cells #[] 51)) W → (partAt ⟨w.heap.size, 0, none⟩ 0 0).run Tryd.prog W = .ok ⟨w.heap.size, 0, none⟩ W) := fun W h => part0 W _ _ ((h.block _ (by simp)).trans (heap_alloc_new w _)) cells51
  have p0 := PB.out _ (Below.refl _ _)
  have p1 := PB.out _ (Below.drew (Below.refl _ _))
  have b1 : bits .or .u32 192 48 = 240 := by decide
  go_enter Tryd.func35, Tryd.ntmps35
  go_wp2
  go_region_held3 (fun W => (partAt ⟨w.heap.size, 0, none⟩ 0 0).run Tryd.prog W = .ok ⟨w.heap.size, 0, none⟩ W) (first | with_reducible assumption | exact p0 | exact p1) (first
    | (go_at_call 33; refine (keeps_any _).mono ?_; rintro e w2 ⟨rfl, h2⟩; have b2 := (Below.drew (Below.refl _ (w.alloc (.cells #[] 51)))).trans h2; have p2 := PB.out _ b2)
    | (go_at_call 34; refine (steadies_any _).mono ?_; rintro e w3 ⟨rfl, h3⟩; have b3 := b2.trans (h3.mono b2.size); have p3 := PB.out _ b3))
  go_wp2
  go_ret
  exact ⟨rfl, (below1 w _).trans (b3.mono (by simp))⟩
set_option maxRecDepth 100000 in
set_option maxHeartbeats 2000000 in
theorem does_any (w : World) : Calls Tryd.prog 36 #[.agg #[]] w fun e w' => e = .returned (.int .u32 243) ∧ Below w.heap.size w w' := by
  have PB : Hid (∀ W, Below (w.alloc (.cells #[] 53)).heap.size (w.alloc (.cells #[] 53)) W → (partAt ⟨w.heap.size, 0, none⟩ 0 0).run Tryd.prog W = .ok ⟨w.heap.size, 0, none⟩ W) := fun W h => part0 W _ _ ((h.block _ (by simp)).trans (heap_alloc_new w _)) cells53
  have p0 := PB.out _ (Below.refl _ _)
  have p1 := PB.out _ (Below.drew (Below.refl _ _))
  have b1 : bits .or .u32 3 240 = 243 := by decide
  go_enter Tryd.func36, Tryd.ntmps36
  go_wp2
  go_region_held3 (fun W => (partAt ⟨w.heap.size, 0, none⟩ 0 0).run Tryd.prog W = .ok ⟨w.heap.size, 0, none⟩ W) (first | with_reducible assumption | exact p0 | exact p1) (first
    | (go_at_call 32; refine (drains_any _).mono ?_; rintro e w2 ⟨rfl, h2⟩; have b2 := (Below.drew (Below.refl _ (w.alloc (.cells #[] 53)))).trans h2; have p2 := PB.out _ b2)
    | (go_at_call 35; refine (lasts_any _).mono ?_; rintro e w3 ⟨rfl, h3⟩; have b3 := b2.trans (h3.mono b2.size); have p3 := PB.out _ b3))
  go_wp2
  go_ret
  exact ⟨rfl, (below1 w _).trans (b3.mono (by simp))⟩

/-- The capabilities of a group. -/
def pts (g : Int) : Nat := if g = 0 then 3 else if g = 1 then 192 else if g = 2 then 48 else if g = 3 then 240 else if g = 4 then 243 else 0
theorem pts_lt (g : Int) : pts g < 2048 := by unfold pts; repeat' split
                                              all_goals decide
set_option maxRecDepth 100000 in
set_option maxHeartbeats 2000000 in
theorem parts0 (w : World) : Calls Tryd.prog 21 #[.int .i64 0] w fun e w' => e = .returned (.int .u32 3) ∧ Below w.heap.size w w' := by
  have p0 := part0 (w.alloc (.cells #[] 53)) w.heap.size _ (heap_alloc_new w _) cells53
  have K := Lib.hid drains_any
  go_enter Tryd.func21, Tryd.ntmps21
  go_wp2_with (first
    | (go_at_call 32; refine (K.out _).mono ?_; rintro e w2 ⟨rfl, h2⟩))
  go_ret
  exact ⟨rfl, (below1 w _).trans (h2.mono (by simp))⟩
set_option maxRecDepth 100000 in
set_option maxHeartbeats 2000000 in
theorem parts1 (w : World) : Calls Tryd.prog 21 #[.int .i64 1] w fun e w' => e = .returned (.int .u32 192) ∧ Below w.heap.size w w' := by
  have p0 := part0 (w.alloc (.cells #[] 53)) w.heap.size _ (heap_alloc_new w _) cells53
  have K := Lib.hid keeps_any
  go_enter Tryd.func21, Tryd.ntmps21
  go_wp2_with (first
    | (go_at_call 33; refine (K.out _).mono ?_; rintro e w2 ⟨rfl, h2⟩))
  go_ret
  exact ⟨rfl, (below1 w _).trans (h2.mono (by simp))⟩
set_option maxRecDepth 100000 in
set_option maxHeartbeats 2000000 in
theorem parts2 (w : World) : Calls Tryd.prog 21 #[.int .i64 2] w fun e w' => e = .returned (.int .u32 48) ∧ Below w.heap.size w w' := by
  have p0 := part0 (w.alloc (.cells #[] 53)) w.heap.size _ (heap_alloc_new w _) cells53
  have K := Lib.hid steadies_any
  go_enter Tryd.func21, Tryd.ntmps21
  go_wp2_with (first
    | (go_at_call 34; refine (K.out _).mono ?_; rintro e w2 ⟨rfl, h2⟩))
  go_ret
  exact ⟨rfl, (below1 w _).trans (h2.mono (by simp))⟩
set_option maxRecDepth 100000 in
set_option maxHeartbeats 2000000 in
theorem parts3 (w : World) : Calls Tryd.prog 21 #[.int .i64 3] w fun e w' => e = .returned (.int .u32 240) ∧ Below w.heap.size w w' := by
  have p0 := part0 (w.alloc (.cells #[] 53)) w.heap.size _ (heap_alloc_new w _) cells53
  have K := Lib.hid lasts_any
  go_enter Tryd.func21, Tryd.ntmps21
  go_wp2_with (first
    | (go_at_call 35; refine (K.out _).mono ?_; rintro e w2 ⟨rfl, h2⟩))
  go_ret
  exact ⟨rfl, (below1 w _).trans (h2.mono (by simp))⟩
set_option maxRecDepth 100000 in
set_option maxHeartbeats 2000000 in
theorem parts4 (w : World) : Calls Tryd.prog 21 #[.int .i64 4] w fun e w' => e = .returned (.int .u32 243) ∧ Below w.heap.size w w' := by
  have p0 := part0 (w.alloc (.cells #[] 53)) w.heap.size _ (heap_alloc_new w _) cells53
  have K := Lib.hid does_any
  go_enter Tryd.func21, Tryd.ntmps21
  go_wp2_with (first
    | (go_at_call 36; refine (K.out _).mono ?_; rintro e w2 ⟨rfl, h2⟩))
  go_ret
  exact ⟨rfl, (below1 w _).trans (h2.mono (by simp))⟩
set_option maxRecDepth 100000 in
set_option maxHeartbeats 2000000 in
theorem parts5 (g : Int) (h : g ≠ 0) (h1 : g ≠ 1) (h2 : g ≠ 2) (h3 : g ≠ 3) (h4 : g ≠ 4) (w : World) : Calls Tryd.prog 21 #[.int .i64 g] w fun e w' => e = .returned (.int .u32 0) ∧ Below w.heap.size w w' := by
  go_enter Tryd.func21, Tryd.ntmps21
  go_wp2
  go_ret
  exact ⟨rfl, below1 _ _⟩
theorem parts_any (g : Int) (w : World) : Calls Tryd.prog 21 #[.int .i64 g] w fun e w' => e = .returned (.int .u32 (pts g : Nat)) ∧ Below w.heap.size w w' := by
  by_cases h0 : g = 0
  · subst h0; exact parts0 w
  · by_cases h1 : g = 1
    · subst h1; exact parts1 w
    · by_cases h2 : g = 2
      · subst h2; exact parts2 w
      · by_cases h3 : g = 3
        · subst h3; exact parts3 w
        · by_cases h4 : g = 4
          · subst h4; exact parts4 w
          · have e : pts g = 0 := by unfold pts; rw [if_neg h0, if_neg h1, if_neg h2, if_neg h3, if_neg h4]
            rw [e]; exact parts5 g h0 h1 h2 h3 h4 w
end Go.Proofs.YtanjkljcoccblaaDoor
