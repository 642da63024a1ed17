/- The first slot of a level that has timers, and what a wheel is asked; the conditions: the wheel's words and the table of least bits in memory. -/
import Derived.Test.YtignphkfknjllaaDoorWb
import Derived.Test.YtignphkfknjllaaDoorWc
namespace Go.Proofs.YtignphkfknjllaaDoor
open Go.RowKit

/-- The table of least bits in memory. -/
def Tb (w : World) : Prop := ∀ i v, bru[i]? = some v → w.cell? ⟨0, i, none⟩ = some (.int .u8 (v : Nat))
theorem Tb.but {C : Nat → Prop} {w w' : World} (h : Tb w) (hb : But C w w') (h0 : ¬ C 0) : Tb w' := fun i v hi => by
  have h1 := h i v hi
  have hlt : 0 < w.heap.size := by
    unfold World.cell? at h1
    cases hh : w.heap[0]? with
    | none => simp [hh] at h1
    | some o => exact (Array.getElem?_eq_some_iff.1 hh).1
  exact (World.cell?_of_block (a := ⟨0, i, none⟩) (hb.block 0 hlt h0)).trans h1
theorem Tb.below {w w' : World} (h : Tb w) (hb : Below w.heap.size w w') : Tb w' := h.but (But.of_below (C := fun _ => False) hb) (fun h => h)

theorem trail_num (x y j : Nat) (hx : x < 18446744073709551616) (a : y < 64) (b : x = 2 ^ y * (2 * j + 1)) (h0 : x ≠ 0) : ∃ P : Nat, P < 64 ∧ bru[P]? = some y ∧ IntKind.u64.wrap (bits .and .u64 (x : Int) (IntKind.u64.wrap (-(x : Int))) * 285870213051353865) / 288230376151711744 = (P : Int) := by
  have N : IntKind.u64.wrap (-(x : Int)) = ((18446744073709551616 - x : Nat) : Int) := by rw [IntKind.wrap_u64]; omega
  have A : bits .and .u64 (x : Int) ((18446744073709551616 - x : Nat) : Int) = ((2 ^ y : Nat) : Int) := by rw [bits_and_u64_nat _ _ hx (by omega)]; exact congrArg _ (and_neg b hx a)
  refine ⟨2 ^ y * 285870213051353865 % 18446744073709551616 / 288230376151711744, ?_, bru_at ⟨y, a⟩, ?_⟩
  · generalize 2 ^ y = z
    omega
  · rw [N, A, IntKind.wrap_u64]
    generalize 2 ^ y = z
    omega
set_option maxRecDepth 100000 in
set_option maxHeartbeats 1000000 in
theorem trail_y (x y P : Nat) (w : World) (h0 : x ≠ 0) (hP : P < 64) (hy : y < 64) (C : w.cell? ⟨0, P, none⟩ = some (.int .u8 (y : Nat))) (E : IntKind.u64.wrap (bits .and .u64 (x : Int) (IntKind.u64.wrap (-(x : Int))) * 285870213051353865) / 288230376151711744 = (P : Int)) :
    Calls Tryd.prog 38 #[.int .u64 x] w fun e w' => e = .returned (.int .i64 y) ∧ w' = w := by
  have hx0 : ((x : Int) == 0) = false := by simpa using h0
  have hx1 : (x : Int) ≠ 0 := by omega
  have P0 : (P : Int) < 64 := by omega
  go_enter Tryd.func38, Tryd.ntmps38
  go_wp2
  go_ret
  exact ⟨rfl, rfl⟩
theorem trail_any (x : Nat) (w : World) (hx : x < 18446744073709551616) (h0 : x ≠ 0) (hT : Tb w) :
    Calls Tryd.prog 38 #[.int .u64 x] w fun e w' => e = .returned (.int .i64 (tz 64 x)) ∧ w' = w := by
  obtain ⟨a, j, b⟩ := tz_spec 64 x h0 hx
  obtain ⟨P, p1, p2, p3⟩ := trail_num x _ j hx a b h0
  exact trail_y x _ P w h0 p1 a (hT _ _ p2) p3
set_option maxRecDepth 100000 in
set_option maxHeartbeats 1000000 in
theorem first_no (b l : Nat) (w : World) (hl : l < 7) (hb : b < w.heap.size) (c : w.cell? ⟨b, 1794 + l, none⟩ = some (.int .u64 0)) :
    Calls Tryd.prog 27 #[.pointer (some ⟨b, 0, none⟩), .int .i64 l] w fun e w' => e = .returned (.tuple #[.agg #[.int .i64 0, .int .i64 0], .bool false]) ∧ Below w.heap.size w w' := by
  have l0 : (0 : Int) ≤ (l : Int) := by omega
  have l1 : (l : Int) < 7 := by omega
  go_enter Tryd.func27, Tryd.ntmps27
  go_wp2
  exact bodyPost_ret (v := .tuple #[.agg #[.int .i64 0, .int .i64 0], .bool false]) (by simp [results, Tryd.results27, go_sem]) rfl ⟨rfl, below1 w _⟩
set_option maxRecDepth 100000 in
set_option maxHeartbeats 1000000 in
theorem first_yes (b l u : Nat) (w : World) (hl : l < 7) (hb : b < w.heap.size) (hu : u < 18446744073709551616) (h0 : u ≠ 0) (hT : Tb w) (c : w.cell? ⟨b, 1794 + l, none⟩ = some (.int .u64 u)) :
    Calls Tryd.prog 27 #[.pointer (some ⟨b, 0, none⟩), .int .i64 l] w fun e w' => e = .returned (.tuple #[.agg #[.int .i64 l, .int .i64 (tz 64 u)], .bool true]) ∧ Below w.heap.size w w' := by
  have l0 : (0 : Int) ≤ (l : Int) := by omega
  have l1 : (l : Int) < 7 := by omega
  have hx0 : ((u : Int) == 0) = false := by simpa using h0
  have K := Lib.hid (fun w hT => trail_any u w hu h0 hT)
  have HT := Lib.hid hT
  clear hT
  go_enter Tryd.func27, Tryd.ntmps27
  go_wp2_with (go_at_call 38; refine (K.out _ (HT.out.below (below1 _ _))).mono ?_; rintro e w1 ⟨rfl, rfl⟩)
  exact bodyPost_ret (v := .tuple #[.agg #[.int .i64 l, .int .i64 (tz 64 u)], .bool true]) (by simp [results, Tryd.results27, go_sem]) rfl ⟨rfl, below1 w _⟩
theorem neq_map (w : World) (r : Option Nat) : (binOp .neq 47 (.map r) (.map none)).run Tryd.prog w = .ok (.bool r.isSome) w := by
  cases r <;> kernel_rfl
set_option maxRecDepth 100000 in
theorem made_yes (b m : Nat) (w : World) (c1 : w.cell? ⟨b, 1, none⟩ = some (.map (some m))) :
    Calls Tryd.prog 25 #[.pointer (some ⟨b, 0, none⟩)] w fun e w' => e = .returned (.bool true) ∧ w' = w := by
  have q := neq_map
  go_enter Tryd.func25, Tryd.ntmps25
  go_wp2
  go_ret
  exact ⟨rfl, rfl⟩
set_option maxRecDepth 100000 in
theorem made_plain (b : Nat) (w : World) (c1 : w.cell? ⟨b, 1, none⟩ = some (.map none)) :
    Calls Tryd.prog 25 #[.pointer (some ⟨b, 0, none⟩)] w fun e w' => e = .returned (.bool false) ∧ w' = w := by
  have q := neq_map
  go_enter Tryd.func25, Tryd.ntmps25
  go_wp2
  go_ret
  exact ⟨rfl, rfl⟩
set_option maxRecDepth 100000 in
theorem made_nil (w : World) : Calls Tryd.prog 25 #[.pointer none] w fun e w' => e = .returned (.bool false) ∧ w' = w := by
  go_enter Tryd.func25, Tryd.ntmps25
  go_wp2
  go_ret
  exact ⟨rfl, rfl⟩
end Go.Proofs.YtignphkfknjllaaDoor
