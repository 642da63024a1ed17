/- A new wheel; no condition but those that each theorem names. -/
import Derived.Test.YtignphkfknjllaaDoorWt
namespace Go.Proofs.YtignphkfknjllaaDoor
open Go.RowKit
variable {zf : Bool}

/-- The cells of so many slots without timers. -/
def slots0 : Nat → List Value
  | 0 => []
  | n + 1 => .pointer none :: .pointer none :: .bool false :: .int .i64 0 :: slots0 n
/-- The cells of a wheel without timers. -/
def zw (v0 v1 : Value) : Array Value := (v0 :: v1 :: (slots0 448 ++ List.replicate 7 (.int .u64 0))).toArray
theorem zero_w (w : World) : (zeroValue 58).run Tryd.prog w = .ok (.agg (zw (.int .i64 0) (.map none))) w := by kernel_rfl
theorem zw_set (v0 v1 : Value) : ((zw (.int .i64 0) (.map none)).setIfInBounds 0 v0).setIfInBounds 1 v1 = zw v0 v1 := by unfold zw; simp
theorem slots0_len : ∀ n, (slots0 n).length = 4 * n
  | 0 => rfl
  | n + 1 => by simp [slots0, slots0_len n]; omega
theorem slots0_at : ∀ n k, k < n → (slots0 n)[4 * k]? = some (.pointer none) ∧ (slots0 n)[4 * k + 1]? = some (.pointer none) ∧ (slots0 n)[4 * k + 2]? = some (.bool false) ∧ (slots0 n)[4 * k + 3]? = some (.int .i64 0)
  | 0, k, h => by omega
  | n + 1, 0, _ => ⟨rfl, rfl, rfl, rfl⟩
  | n + 1, k + 1, h => by
    have := slots0_at n k (by omega)
    rw [show 4 * (k + 1) = 4 * k + 4 by omega]
    exact this
theorem zw_at (v0 v1 : Value) (o : Nat) : (zw v0 v1)[o + 2]? = (slots0 448 ++ List.replicate 7 (.int .u64 0))[o]? := by
  unfold zw
  simp
theorem zw_slot (v0 v1 : Value) {k : Nat} (hk : k < 448) : (zw v0 v1)[2 + 4 * k]? = some (.pointer none) ∧ (zw v0 v1)[2 + 4 * k + 1]? = some (.pointer none) ∧ (zw v0 v1)[2 + 4 * k + 2]? = some (.bool false) ∧ (zw v0 v1)[2 + 4 * k + 3]? = some (.int .i64 0) := by
  obtain ⟨h0, h1, h2, h3⟩ := slots0_at 448 k hk
  have hl := slots0_len 448
  have e : ∀ j, j < 4 → (zw v0 v1)[2 + 4 * k + j]? = (slots0 448)[4 * k + j]? := fun j hj => by
    rw [show 2 + 4 * k + j = (4 * k + j) + 2 by omega, zw_at, List.getElem?_append_left (by omega)]
  exact ⟨(e 0 (by omega)).trans h0, (e 1 (by omega)).trans h1, (e 2 (by omega)).trans h2, (e 3 (by omega)).trans h3⟩
theorem zw_used (v0 v1 : Value) {l : Nat} (hl : l < 7) : (zw v0 v1)[1794 + l]? = some (.int .u64 0) := by
  have h := slots0_len 448
  rw [show 1794 + l = (1792 + l) + 2 by omega, zw_at, List.getElem?_append_right (by omega), h]
  rw [List.getElem?_replicate, if_pos (by omega)]
attribute [irreducible] zw
/-- The time of a new wheel. -/
def t0 (x : Int) : Nat := (min (max x 0) 1099511627776).toNat
theorem t0_is (x : Int) : min (max x 0) 1099511627776 = ((t0 x : Nat) : Int) ∧ t0 x ≤ 1099511627776 := by unfold t0; omega
theorem zw_01 (v0 v1 : Value) : (zw v0 v1)[0]? = some v0 ∧ (zw v0 v1)[1]? = some v1 := by unfold zw; exact ⟨by simp, by simp⟩
theorem zw_ne (v0 v1 : Value) : (zw v0 v1 = #[]) = False := by
  have h := (zw_01 v0 v1).1
  simp only [eq_iff_iff, iff_false]
  intro e
  rw [e] at h
  simp at h
theorem zw_size (v0 v1 : Value) : ((zw v0 v1).size < 2) = False := by
  have h := (zw_01 v0 v1).2
  simp only [eq_iff_iff, iff_false]
  have := (Array.getElem?_eq_some_iff.1 h).1
  omega

theorem new_wh (w : World) (T : Nat) (hT : T ≤ 1099511627776) : Wh zf ((w.alloc (.map #[] 0)).alloc (.cells (zw (.int .i64 T) (.map (some w.heap.size))) 58)) (w.heap.size + 1) w.heap.size T [] := by
  have hbk := Bk.new (w.alloc (.map #[] 0)) (zw (.int .i64 T) (.map (some w.heap.size))) 58
  have hs : (w.alloc (.map #[] 0)).heap.size = w.heap.size + 1 := by simp
  rw [hs] at hbk
  have hm : ((w.alloc (.map #[] 0)).alloc (.cells (zw (.int .i64 T) (.map (some w.heap.size))) 58)).heap[w.heap.size]? = some (.map #[] 0) := ((below1 (w.alloc (.map #[] 0)) _).block w.heap.size (by rw [hs]; omega)).trans (heap_alloc_new w _)
  generalize (w.alloc (.map #[] 0)).alloc (.cells (zw (.int .i64 T) (.map (some w.heap.size))) 58) = W at *
  have c := fun o => hbk.c o
  refine ⟨fun _ => [], fun _ => false, fun _ => 0, fun _ => 0, ⟨⟨?_, ⟨_, hbk⟩, fun k t _ h => by simp at h⟩, (c 0).trans (zw_01 _ _).1, (c 1).trans (zw_01 _ _).2, fun k hk => (c _).trans (zw_slot _ _ hk).2.2.1, fun k hk => (c _).trans (zw_slot _ _ hk).2.2.2, fun l hl => (c _).trans (zw_used _ _ hl)⟩, ⟨hT, fun k a _ => by simp [fl], fun t h => by simp at h, fun _ _ => by decide, fun l s _ _ => by simp, by simp⟩, fun k _ => ⟨fun _ => List.Pairwise.nil, fun h => by simp at h⟩, fun _ k _ h => by simp at h, ⟨#[], 0, hm, by simp [im]⟩⟩
  exact ⟨fun k hk => (c _).trans (zw_slot _ _ hk).1, fun k hk => (c _).trans (zw_slot _ _ hk).2.1, fun k p t r _ e => by simp at e, fun k p t r _ e => by simp at e, fun k t _ h => by simp at h, fun k t _ h => by simp at h, fun k p t r _ _ _ _ _ _ e => by simp at e⟩

set_option maxRecDepth 100000 in
set_option maxHeartbeats 1000000 in
theorem new_any (x : Int) (w : World) : Calls Tryd.prog 7 #[.int .i64 x] w fun e w' => e = .returned (.pointer (some ⟨w.heap.size + 1, 0, none⟩)) ∧ Wh zf w' (w.heap.size + 1) w.heap.size (t0 x) [] ∧ Below w.heap.size w w' := by
  obtain ⟨hx, ht⟩ := t0_is x
  have HW := Lib.hid (new_wh (zf := zf) w (t0 x) ht)
  have z1 := zero_w
  have z2 := zw_ne (.int .i64 0) (.map none)
  have z3 := zw_size (.int .i64 0) (.map none)
  have z4 := zw_set
  have mk : ∀ w, (Instr.makeMap 47 none).run Tryd.prog w = .ok (.map (some w.heap.size)) (w.alloc (.map #[] 0)) := fun w => run_makeMap _ w
  go_enter Tryd.func7, Tryd.ntmps7
  go_wp2
  go_ret
  refine ⟨rfl, HW.out, ((Below.refl _ w).alloc (Nat.le_refl _) _).alloc (by simp) _⟩
end Go.Proofs.YtignphkfknjllaaDoor
