/- What the package's inner value makes of a kind alone: an interface value of that kind's type, in new memory; no condition. -/
import Derived.Test.YtoagofdmbapfeabGreatDoorKindsO
import Derived.Deep.RegionHeld3
namespace Go.Proofs.YtoagofdmbapfeabGreatDoor
open Go.RowKit

set_option maxRecDepth 100000 in
set_option maxHeartbeats 1000000 in
theorem place0 (i : Int) (hi : 0 ≤ i) (w : World) : Calls Tryz.prog 38 #[.agg #[.map none], .slice none 0 0, .int .i64 i] w fun e w' => e = .returned .nilIface ∧ w' = w.alloc (.cells #[.map none] 62) := by
  go_enter Tryz.func38, Tryz.ntmps38
  go_wp2
  go_ret
  exact ⟨rfl, rfl⟩

set_option maxRecDepth 100000 in
set_option maxHeartbeats 4000000 in
theorem kind9 (w : World) : Calls Tryz.prog 27 #[.agg #[.map none], .agg #[.int .i64 9, .int .i64 0, .int .u64 0, .string ⟨#[]⟩, .slice none 0 0]] w fun e w' => ∃ v, e = .returned (.iface 101 v) ∧ Below w.heap.size w w' := by
  go_enter Tryz.func27, Tryz.ntmps27
  go_wp2_with fail
  go_region_held3 (fun w' => w'.cell? ⟨w.heap.size, 0, none⟩ = some (.map none) ∧ w'.cell? ⟨w.heap.size + 1, 4, none⟩ = some (.slice none 0 0)) (go_keep) ((go_at_call 38; refine (place0 _ (by decide) _).mono ?_; rintro e w' ⟨rfl, rfl⟩))
  all_goals go_wp2
  all_goals go_ret
  all_goals refine ⟨_, rfl, ?_⟩
  all_goals exact (((((Below.refl _ w).alloc (Nat.le_refl _) _).alloc (by simp) _).alloc (by simp; omega) _).alloc (by simp; omega) _).drew

set_option maxRecDepth 100000 in
set_option maxHeartbeats 1000000 in
theorem pointer0 (w : World) : Calls Tryz.prog 39 #[.agg #[.map none], .agg #[.int .i64 11, .int .i64 0, .int .u64 0, .string ⟨#[]⟩, .slice none 0 0]] w fun e w' => ∃ v, e = .returned v ∧ Below w.heap.size w w' := by
  have hmn := fun w : World => run_eql_map_nil (P := Tryz.prog) w 60 _ _ none Tryz.underlying60
  go_enter Tryz.func39, Tryz.ntmps39
  go_wp2_with fail
  go_region_held3 (fun w' => w'.cell? ⟨w.heap.size, 0, none⟩ = some (.map none) ∧ w'.cell? ⟨w.heap.size + 1, 1, none⟩ = some (.int .i64 0) ∧ w'.cell? ⟨w.heap.size + 1, 4, none⟩ = some (.slice none 0 0)) (go_keep) ((go_at_call 38; refine (place0 _ (by decide) _).mono ?_; rintro e w' ⟨rfl, rfl⟩))
  all_goals go_wp2
  all_goals go_ret
  all_goals refine ⟨_, rfl, ?_⟩
  all_goals exact (((((Below.refl _ w).alloc (Nat.le_refl _) _).alloc (by simp) _).alloc (by simp; omega) _).alloc (by simp; omega) _).drew

set_option maxRecDepth 100000 in
set_option maxHeartbeats 1000000 in
theorem kind11 (w : World) : Calls Tryz.prog 27 #[.agg #[.map none], .agg #[.int .i64 11, .int .i64 0, .int .u64 0, .string ⟨#[]⟩, .slice none 0 0]] w fun e w' => ∃ v, e = .returned (.iface 104 v) ∧ Below w.heap.size w w' := by
  go_enter Tryz.func27, Tryz.ntmps27
  go_wp2_with fail
  refine (pointer0 _).mono ?_
  rintro e w1 ⟨v, rfl, b1⟩
  go_wp2
  go_ret
  exact ⟨_, rfl, (((Below.refl _ w).alloc (Nat.le_refl _) _).alloc (by simp) _).trans (b1.mono (by simp; omega))⟩
end Go.Proofs.YtoagofdmbapfeabGreatDoor
