/- What the inner package makes of a kind alone: an interface value of that kind, in new memory; no condition. -/
import Derived.Test.YtkgbpildikjoiaaGreatDoorBase
namespace Go.Proofs.YtkgbpildikjoiaaGreatDoor
open Go.RowKit

/-- What is asked of one kind. -/
def KindOf (k : Int) (w : World) : Prop := Calls Tryz.prog 53 #[.agg #[.map none], .agg #[.int .i64 k, .int .i64 0, .int .u64 0, .string ⟨#[]⟩, .slice none 0 0]] w fun e w' => ∃ u, e = .returned u ∧ Kd k u ∧ Below w.heap.size w w'

set_option maxRecDepth 100000 in
set_option maxHeartbeats 1000000 in
theorem kind1 (w : World) : KindOf 1 w := by
  unfold KindOf
  go_enter Tryz.func53, Tryz.ntmps53
  go_wp2
  go_ret
  exact ⟨_, rfl, Kd.plain 1 _ (by decide) (by decide), below2 w _ _⟩

set_option maxRecDepth 100000 in
set_option maxHeartbeats 1000000 in
theorem kind2 (w : World) : KindOf 2 w := by
  unfold KindOf
  go_enter Tryz.func53, Tryz.ntmps53
  go_wp2
  go_ret
  exact ⟨_, rfl, Kd.plain 2 _ (by decide) (by decide), below2 w _ _⟩

set_option maxRecDepth 100000 in
set_option maxHeartbeats 1000000 in
theorem kind4 (w : World) : KindOf 4 w := by
  unfold KindOf
  go_enter Tryz.func53, Tryz.ntmps53
  go_wp2
  go_ret
  exact ⟨_, rfl, Kd.plain 4 _ (by decide) (by decide), below2 w _ _⟩

set_option maxRecDepth 100000 in
set_option maxHeartbeats 1000000 in
theorem kind5 (w : World) : KindOf 5 w := by
  unfold KindOf
  go_enter Tryz.func53, Tryz.ntmps53
  go_wp2
  go_ret
  exact ⟨_, rfl, Kd.plain 5 _ (by decide) (by decide), below2 w _ _⟩

set_option maxRecDepth 100000 in
set_option maxHeartbeats 1000000 in
theorem kind6 (w : World) : KindOf 6 w := by
  unfold KindOf
  go_enter Tryz.func53, Tryz.ntmps53
  go_wp2
  go_ret
  exact ⟨_, rfl, Kd.plain 6 _ (by decide) (by decide), below2 w _ _⟩

set_option maxRecDepth 100000 in
set_option maxHeartbeats 1000000 in
theorem kind10 (w : World) : KindOf 10 w := by
  unfold KindOf
  go_enter Tryz.func53, Tryz.ntmps53
  go_wp2
  go_ret
  exact ⟨_, rfl, Kd.fail _ _, below2 w _ _⟩

set_option maxRecDepth 100000 in
set_option maxHeartbeats 1000000 in
theorem kind13 (w : World) : KindOf 13 w := by
  unfold KindOf
  go_enter Tryz.func53, Tryz.ntmps53
  go_wp2
  go_ret
  exact ⟨_, rfl, Kd.unit, below2 w _ _⟩

set_option maxRecDepth 100000 in
set_option maxHeartbeats 1000000 in
theorem kind12 (w : World) : KindOf 12 w := by
  unfold KindOf
  go_enter Tryz.func53, Tryz.ntmps53
  go_wp2
  go_ret
  exact ⟨_, rfl, Kd.nilp, below2 w _ _⟩

set_option maxRecDepth 100000 in
set_option maxHeartbeats 1000000 in
theorem kind3 (w : World) : KindOf 3 w := by
  unfold KindOf
  have hf : ∀ w : World, (callFunc 65 #[.int .u64 0]).run Tryz.prog w = .ok (.value (.float .f64 0)) w := fun _ => by kernel_rfl
  go_enter Tryz.func53, Tryz.ntmps53
  go_wp2
  go_ret
  exact ⟨_, rfl, Kd.plain 3 _ (by decide) (by decide), below2 w _ _⟩

set_option maxRecDepth 100000 in
set_option maxHeartbeats 1000000 in
theorem kind7 (w : World) : KindOf 7 w := by
  unfold KindOf
  have hc := fun w : World => Lib.run_convert_string_bytes (P := Tryz.prog) w 9 116 5 ⟨#[]⟩ Tryz.underlying9 Tryz.underlying116 Tryz.underlying5
  go_enter Tryz.func53, Tryz.ntmps53
  go_wp2
  go_ret
  exact ⟨_, rfl, Kd.plain 7 _ (by decide) (by decide), (below2 w _ _).trans ((Lib.bytesWorld_below _ 5 _).mono (by simp; omega))⟩

set_option maxRecDepth 100000 in
set_option maxHeartbeats 1000000 in
theorem row0 (w : World) : Calls Tryz.prog 66 #[.agg #[.map none], .slice none 0 0] w fun e w' => ∃ v, e = .returned v ∧ Below w.heap.size w w' := by
  have hmk : ∀ w : World, (Instr.makeSlice 118 (.int .i64 0) (.int .i64 0)).run Tryz.prog w = .ok (.slice (some ⟨w.heap.size, 0, none⟩) 0 0) (w.alloc (.cells #[] 20)) := fun _ => by kernel_rfl
  go_enter Tryz.func66, Tryz.ntmps66
  go_wp2_with fail
  refine wp_loop_rounds 1 ?_
  rw [rounds_succ]
  go_wp2
  go_ret
  exact ⟨_, rfl, below2 w _ _⟩
set_option maxRecDepth 100000 in
set_option maxHeartbeats 1000000 in
theorem kind8 (w : World) : KindOf 8 w := by
  unfold KindOf
  go_enter Tryz.func53, Tryz.ntmps53
  go_wp2_with fail
  refine (row0 _).mono ?_
  rintro e w1 ⟨v, rfl, b1⟩
  go_wp2
  go_ret
  exact ⟨_, rfl, Kd.plain 8 _ (by decide) (by decide), (below2 w _ _).trans (b1.mono (by simp; omega))⟩

set_option maxRecDepth 100000 in
set_option maxHeartbeats 1000000 in
theorem kindNo (k : Int) (w : World) (h : k < 1 ∨ 13 < k) : KindOf k w := by
  unfold KindOf
  have hk : Kd k .nilIface := .inl ⟨h, rfl⟩
  have h1 : (k == 1) = false := by simp; omega
  have h2 : (k == 2) = false := by simp; omega
  have h3 : (k == 3) = false := by simp; omega
  have h4 : (k == 4) = false := by simp; omega
  have h5 : (k == 5) = false := by simp; omega
  have h6 : (k == 6) = false := by simp; omega
  have h7 : (k == 7) = false := by simp; omega
  have h8 : (k == 8) = false := by simp; omega
  have h9 : (k == 9) = false := by simp; omega
  have h10 : (k == 10) = false := by simp; omega
  have h11 : (k == 11) = false := by simp; omega
  have h12 : (k == 12) = false := by simp; omega
  have h13 : (k == 13) = false := by simp; omega
  clear h
  go_enter Tryz.func53, Tryz.ntmps53
  go_wp2
  go_ret
  exact ⟨_, rfl, hk, below2 w _ _⟩

set_option maxRecDepth 100000 in
set_option maxHeartbeats 1000000 in
theorem place0 (i : Int) (hi : 0 ≤ i) (w : World) : Calls Tryz.prog 67 #[.agg #[.map none], .slice none 0 0, .int .i64 i] w fun e w' => e = .returned .nilIface ∧ w' = w.alloc (.cells #[.map none] 99) := by
  go_enter Tryz.func67, Tryz.ntmps67
  go_wp2
  go_ret
  exact ⟨rfl, rfl⟩

set_option maxRecDepth 100000 in
set_option maxHeartbeats 4000000 in
theorem kind9 (w : World) : KindOf 9 w := by
  unfold KindOf
  go_enter Tryz.func53, Tryz.ntmps53
  go_wp2_with fail
  go_region_held3 (fun w' => w'.cell? ⟨w.heap.size, 0, none⟩ = some (.map none) ∧ w'.cell? ⟨w.heap.size + 1, 4, none⟩ = some (.slice none 0 0)) (go_keep) ((go_at_call 67; refine (place0 _ (by decide) _).mono ?_; rintro e w' ⟨rfl, rfl⟩))
  all_goals go_wp2
  all_goals go_ret
  all_goals refine ⟨_, rfl, Kd.pair _ _ (.inl rfl) (.inl rfl), ?_⟩
  all_goals exact (((((Below.refl _ w).alloc (Nat.le_refl _) _).alloc (by simp) _).alloc (by simp; omega) _).alloc (by simp; omega) _).drew

set_option maxRecDepth 100000 in
set_option maxHeartbeats 1000000 in
theorem pointer0 (w : World) : Calls Tryz.prog 68 #[.agg #[.map none], .agg #[.int .i64 11, .int .i64 0, .int .u64 0, .string ⟨#[]⟩, .slice none 0 0]] w fun e w' => ∃ a, e = .returned (.pointer (some a)) ∧ Below w.heap.size w w' := by
  have hmn := fun w : World => run_eql_map_nil (P := Tryz.prog) w 97 _ _ none Tryz.underlying97
  go_enter Tryz.func68, Tryz.ntmps68
  go_wp2_with fail
  go_region_held3 (fun w' => w'.cell? ⟨w.heap.size, 0, none⟩ = some (.map none) ∧ w'.cell? ⟨w.heap.size + 1, 1, none⟩ = some (.int .i64 0) ∧ w'.cell? ⟨w.heap.size + 1, 4, none⟩ = some (.slice none 0 0)) (go_keep) ((go_at_call 67; refine (place0 _ (by decide) _).mono ?_; rintro e w' ⟨rfl, rfl⟩))
  all_goals go_wp2
  all_goals go_ret
  all_goals refine ⟨_, rfl, ?_⟩
  all_goals exact (((((Below.refl _ w).alloc (Nat.le_refl _) _).alloc (by simp) _).alloc (by simp; omega) _).alloc (by simp; omega) _).drew

set_option maxRecDepth 100000 in
set_option maxHeartbeats 1000000 in
theorem kind11 (w : World) : KindOf 11 w := by
  unfold KindOf
  go_enter Tryz.func53, Tryz.ntmps53
  go_wp2_with fail
  refine (pointer0 _).mono ?_
  rintro e w1 ⟨a, rfl, b1⟩
  go_wp2
  go_ret
  exact ⟨_, rfl, Kd.ptr a, (below2 w _ _).trans (b1.mono (by simp; omega))⟩

theorem kind_any (k : Int) (w : World) : KindOf k w := by
  by_cases h : k < 1 ∨ 13 < k
  · exact kindNo k w h
  have hk : k = 1 ∨ k = 2 ∨ k = 3 ∨ k = 4 ∨ k = 5 ∨ k = 6 ∨ k = 7 ∨ k = 8 ∨ k = 9 ∨ k = 10 ∨ k = 11 ∨ k = 12 ∨ k = 13 := by omega
  rcases hk with rfl | rfl | rfl | rfl | rfl | rfl | rfl | rfl | rfl | rfl | rfl | rfl | rfl
  · exact kind1 w
  · exact kind2 w
  · exact kind3 w
  · exact kind4 w
  · exact kind5 w
  · exact kind6 w
  · exact kind7 w
  · exact kind8 w
  · exact kind9 w
  · exact kind10 w
  · exact kind11 w
  · exact kind12 w
  · exact kind13 w

set_option maxRecDepth 100000 in
set_option maxHeartbeats 1000000 in
theorem of_kind (k : Int) (w : World) : Calls Tryz.prog 45 #[.agg #[.int .i64 k, .int .i64 0, .int .u64 0, .string ⟨#[]⟩, .slice none 0 0]] w fun e w' => ∃ u, e = .returned u ∧ Kd k u ∧ Below w.heap.size w w' := by
  have H := Lib.hid (kind_any k)
  go_enter Tryz.func45, Tryz.ntmps45
  go_wp2_with fail
  refine (H.out _).mono ?_
  rintro e w1 ⟨u, rfl, hx, b1⟩
  go_wp2
  go_ret
  exact ⟨u, rfl, hx, (below1 w _).trans (b1.mono (by simp))⟩

set_option maxRecDepth 100000 in
set_option maxHeartbeats 1000000 in
/-- Some value of a kind. -/
theorem ofKind_any (k : Int) (w : World) : Calls Tryz.prog 37 #[.int .i64 k] w fun e w' => ∃ u, e = .returned u ∧ Kd k u ∧ Below w.heap.size w w' := by
  have H := Lib.hid (of_kind k)
  go_enter Tryz.func37, Tryz.ntmps37
  go_wp2_with fail
  refine (H.out _).mono ?_
  rintro e w1 ⟨u, rfl, hx, b1⟩
  go_wp2
  go_ret
  exact ⟨u, rfl, hx, b1⟩
end Go.Proofs.YtkgbpildikjoiaaGreatDoor
