/- What the inner package makes of a kind alone: an interface value of that kind, in new memory; no condition. -/
import Derived.Test.YtajagjcfmaggiaaGreatDoorKBaa
import Derived.Test.YtajagjcfmaggiaaGreatDoorKBag
import Derived.Defers
import Derived.Recover
namespace Go.Proofs.YtajagjcfmaggiaaGreatDoor
open Go.RowKit

/-- What is asked of one kind. -/
def KindOf (k : Int) (w : World) : Prop := Calls Tryz.prog 86 #[.agg #[.map none], .agg #[.int .i64 k, .int .i64 0, .int .u64 0, .string ⟨#[]⟩, .slice none 0 0]] w fun e w' => ∃ u, e = .returned u ∧ Kd k u ∧ Below w.heap.size w w'

set_option maxRecDepth 100000 in
set_option maxHeartbeats 1000000 in
theorem kind1 (w : World) : KindOf 1 w := by
  unfold KindOf
  go_enter Tryz.func86, Tryz.ntmps86
  go_wp2
  go_ret
  exact ⟨_, rfl, Kd.plain 1 _ (by decide) (by decide), below2 w _ _⟩

set_option maxRecDepth 100000 in
set_option maxHeartbeats 1000000 in
theorem kind2 (w : World) : KindOf 2 w := by
  unfold KindOf
  go_enter Tryz.func86, Tryz.ntmps86
  go_wp2
  go_ret
  exact ⟨_, rfl, Kd.plain 2 _ (by decide) (by decide), below2 w _ _⟩

set_option maxRecDepth 100000 in
set_option maxHeartbeats 1000000 in
theorem kind4 (w : World) : KindOf 4 w := by
  unfold KindOf
  go_enter Tryz.func86, Tryz.ntmps86
  go_wp2
  go_ret
  exact ⟨_, rfl, Kd.plain 4 _ (by decide) (by decide), below2 w _ _⟩

set_option maxRecDepth 100000 in
set_option maxHeartbeats 1000000 in
theorem kind5 (w : World) : KindOf 5 w := by
  unfold KindOf
  go_enter Tryz.func86, Tryz.ntmps86
  go_wp2
  go_ret
  exact ⟨_, rfl, Kd.plain 5 _ (by decide) (by decide), below2 w _ _⟩

set_option maxRecDepth 100000 in
set_option maxHeartbeats 1000000 in
theorem kind6 (w : World) : KindOf 6 w := by
  unfold KindOf
  go_enter Tryz.func86, Tryz.ntmps86
  go_wp2
  go_ret
  exact ⟨_, rfl, Kd.plain 6 _ (by decide) (by decide), below2 w _ _⟩

set_option maxRecDepth 100000 in
set_option maxHeartbeats 1000000 in
theorem kind10 (w : World) : KindOf 10 w := by
  unfold KindOf
  go_enter Tryz.func86, Tryz.ntmps86
  go_wp2
  go_ret
  exact ⟨_, rfl, Kd.fail _ _, below2 w _ _⟩

set_option maxRecDepth 100000 in
set_option maxHeartbeats 1000000 in
theorem kind13 (w : World) : KindOf 13 w := by
  unfold KindOf
  go_enter Tryz.func86, Tryz.ntmps86
  go_wp2
  go_ret
  exact ⟨_, rfl, Kd.unit, below2 w _ _⟩

set_option maxRecDepth 100000 in
set_option maxHeartbeats 1000000 in
theorem kind12 (w : World) : KindOf 12 w := by
  unfold KindOf
  go_enter Tryz.func86, Tryz.ntmps86
  go_wp2
  go_ret
  exact ⟨_, rfl, Kd.nilp, below2 w _ _⟩

set_option maxRecDepth 100000 in
set_option maxHeartbeats 1000000 in
theorem kind3 (w : World) : KindOf 3 w := by
  unfold KindOf
  have hf : ∀ w : World, (callFunc 41 #[.int .u64 0]).run Tryz.prog w = .ok (.value (.float .f64 0)) w := fun _ => by kernel_rfl
  go_enter Tryz.func86, Tryz.ntmps86
  go_wp2
  go_ret
  exact ⟨_, rfl, Kd.plain 3 _ (by decide) (by decide), below2 w _ _⟩

set_option maxRecDepth 100000 in
set_option maxHeartbeats 1000000 in
theorem kind7 (w : World) : KindOf 7 w := by
  unfold KindOf
  have hc := fun w : World => Lib.run_convert_string_bytes (P := Tryz.prog) w 9 147 5 ⟨#[]⟩ Tryz.underlying9 Tryz.underlying147 Tryz.underlying5
  go_enter Tryz.func86, Tryz.ntmps86
  go_wp2
  go_ret
  exact ⟨_, rfl, Kd.plain 7 _ (by decide) (by decide), (below2 w _ _).trans ((Lib.bytesWorld_below _ 5 _).mono (by simp; omega))⟩

set_option maxRecDepth 100000 in
set_option maxHeartbeats 1000000 in
theorem row0 (w : World) : Calls Tryz.prog 98 #[.agg #[.map none], .slice none 0 0] w fun e w' => ∃ v, e = .returned v ∧ Below w.heap.size w w' := by
  have hmk : ∀ w : World, (Instr.makeSlice 149 (.int .i64 0) (.int .i64 0)).run Tryz.prog w = .ok (.slice (some ⟨w.heap.size, 0, none⟩) 0 0) (w.alloc (.cells #[] 20)) := fun _ => by kernel_rfl
  go_enter Tryz.func98, Tryz.ntmps98
  go_wp2_with fail
  refine wp_loop_rounds 1 ?_
  rw [rounds_succ]
  go_wp2
  go_ret
  exact ⟨_, rfl, below2 w _ _⟩
set_option maxRecDepth 100000 in
set_option maxHeartbeats 1000000 in
theorem kind8 (w : World) : KindOf 8 w := by
  unfold KindOf
  go_enter Tryz.func86, Tryz.ntmps86
  go_wp2_with fail
  refine (row0 _).mono ?_
  rintro e w1 ⟨v, rfl, b1⟩
  go_wp2
  go_ret
  exact ⟨_, rfl, Kd.plain 8 _ (by decide) (by decide), (below2 w _ _).trans (b1.mono (by simp; omega))⟩

set_option maxRecDepth 100000 in
set_option maxHeartbeats 1000000 in
theorem kindNo (k : Int) (w : World) (h : k < 1 ∨ 13 < k) : KindOf k w := by
  unfold KindOf
  have hk : Kd k .nilIface := .inl ⟨h, rfl⟩
  have h1 : (k == 1) = false := by simp; omega
  have h2 : (k == 2) = false := by simp; omega
  have h3 : (k == 3) = false := by simp; omega
  have h4 : (k == 4) = false := by simp; omega
  have h5 : (k == 5) = false := by simp; omega
  have h6 : (k == 6) = false := by simp; omega
  have h7 : (k == 7) = false := by simp; omega
  have h8 : (k == 8) = false := by simp; omega
  have h9 : (k == 9) = false := by simp; omega
  have h10 : (k == 10) = false := by simp; omega
  have h11 : (k == 11) = false := by simp; omega
  have h12 : (k == 12) = false := by simp; omega
  have h13 : (k == 13) = false := by simp; omega
  clear h
  go_enter Tryz.func86, Tryz.ntmps86
  go_wp2
  go_ret
  exact ⟨_, rfl, hk, below2 w _ _⟩

set_option maxRecDepth 100000 in
set_option maxHeartbeats 1000000 in
theorem place0 (i : Int) (hi : 0 ≤ i) (w : World) : Calls Tryz.prog 99 #[.agg #[.map none], .slice none 0 0, .int .i64 i] w fun e w' => e = .returned .nilIface ∧ w' = w.alloc (.cells #[.map none] 132) := by
  go_enter Tryz.func99, Tryz.ntmps99
  go_wp2
  go_ret
  exact ⟨rfl, rfl⟩

set_option maxRecDepth 100000 in
set_option maxHeartbeats 4000000 in
theorem kind9 (w : World) : KindOf 9 w := by
  unfold KindOf
  go_enter Tryz.func86, Tryz.ntmps86
  go_wp2_with fail
  go_region_held3 (fun w' => w'.cell? ⟨w.heap.size, 0, none⟩ = some (.map none) ∧ w'.cell? ⟨w.heap.size + 1, 4, none⟩ = some (.slice none 0 0)) (go_keep) ((go_at_call 99; refine (place0 _ (by decide) _).mono ?_; rintro e w' ⟨rfl, rfl⟩))
  all_goals go_wp2
  all_goals go_ret
  all_goals refine ⟨_, rfl, Kd.pair _ _ (.inl rfl) (.inl rfl), ?_⟩
  all_goals exact (((((Below.refl _ w).alloc (Nat.le_refl _) _).alloc (by simp) _).alloc (by simp; omega) _).alloc (by simp; omega) _).drew

set_option maxRecDepth 100000 in
set_option maxHeartbeats 1000000 in
theorem pointer0 (w : World) : Calls Tryz.prog 100 #[.agg #[.map none], .agg #[.int .i64 11, .int .i64 0, .int .u64 0, .string ⟨#[]⟩, .slice none 0 0]] w fun e w' => ∃ a, e = .returned (.pointer (some a)) ∧ Below w.heap.size w w' := by
  have hmn := fun w : World => run_eql_map_nil (P := Tryz.prog) w 130 _ _ none Tryz.underlying130
  go_enter Tryz.func100, Tryz.ntmps100
  go_wp2_with fail
  go_region_held3 (fun w' => w'.cell? ⟨w.heap.size, 0, none⟩ = some (.map none) ∧ w'.cell? ⟨w.heap.size + 1, 1, none⟩ = some (.int .i64 0) ∧ w'.cell? ⟨w.heap.size + 1, 4, none⟩ = some (.slice none 0 0)) (go_keep) ((go_at_call 99; refine (place0 _ (by decide) _).mono ?_; rintro e w' ⟨rfl, rfl⟩))
  all_goals go_wp2
  all_goals go_ret
  all_goals refine ⟨_, rfl, ?_⟩
  all_goals exact (((((Below.refl _ w).alloc (Nat.le_refl _) _).alloc (by simp) _).alloc (by simp; omega) _).alloc (by simp; omega) _).drew

set_option maxRecDepth 100000 in
set_option maxHeartbeats 1000000 in
theorem kind11 (w : World) : KindOf 11 w := by
  unfold KindOf
  go_enter Tryz.func86, Tryz.ntmps86
  go_wp2_with fail
  refine (pointer0 _).mono ?_
  rintro e w1 ⟨a, rfl, b1⟩
  go_wp2
  go_ret
  exact ⟨_, rfl, Kd.ptr a, (below2 w _ _).trans (b1.mono (by simp; omega))⟩

theorem kind_any (k : Int) (w : World) : KindOf k w := by
  by_cases h : k < 1 ∨ 13 < k
  · exact kindNo k w h
  have hk : k = 1 ∨ k = 2 ∨ k = 3 ∨ k = 4 ∨ k = 5 ∨ k = 6 ∨ k = 7 ∨ k = 8 ∨ k = 9 ∨ k = 10 ∨ k = 11 ∨ k = 12 ∨ k = 13 := by omega
  rcases hk with rfl | rfl | rfl | rfl | rfl | rfl | rfl | rfl | rfl | rfl | rfl | rfl | rfl
  · exact kind1 w
  · exact kind2 w
  · exact kind3 w
  · exact kind4 w
  · exact kind5 w
  · exact kind6 w
  · exact kind7 w
  · exact kind8 w
  · exact kind9 w
  · exact kind10 w
  · exact kind11 w
  · exact kind12 w
  · exact kind13 w

set_option maxRecDepth 100000 in
set_option maxHeartbeats 1000000 in
theorem of_kind (k : Int) (w : World) : Calls Tryz.prog 76 #[.agg #[.int .i64 k, .int .i64 0, .int .u64 0, .string ⟨#[]⟩, .slice none 0 0]] w fun e w' => ∃ u, e = .returned u ∧ Kd k u ∧ Below w.heap.size w w' := by
  have H := Lib.hid (kind_any k)
  go_enter Tryz.func76, Tryz.ntmps76
  go_wp2_with fail
  refine (H.out _).mono ?_
  rintro e w1 ⟨u, rfl, hx, b1⟩
  go_wp2
  go_ret
  exact ⟨u, rfl, hx, (below1 w _).trans (b1.mono (by simp))⟩

set_option maxRecDepth 100000 in
set_option maxHeartbeats 1000000 in
/-- Some value of a kind. -/
theorem ofKind_any (k : Int) (w : World) : Calls Tryz.prog 46 #[.int .i64 k] w fun e w' => ∃ u, e = .returned u ∧ Kd k u ∧ Below w.heap.size w w' := by
  have H := Lib.hid (of_kind k)
  go_enter Tryz.func46, Tryz.ntmps46
  go_wp2_with fail
  refine (H.out _).mono ?_
  rintro e w1 ⟨u, rfl, hx, b1⟩
  go_wp2
  go_ret
  exact ⟨u, rfl, hx, b1⟩
end Go.Proofs.YtajagjcfmaggiaaGreatDoor
/- Which question the package asks for a kind's type, and which for an interface's number; no condition. -/
namespace Go.Proofs.YtajagjcfmaggiaaGreatDoor
open Go.RowKit

/-- The question's type for a kind. -/
def qty (k : Int) : Nat :=
  if k = 1 then 105 else if k = 2 then 106 else if k = 3 then 107 else if k = 4 then 108 else if k = 5 then 109 else if k = 6 then 110 else if k = 7 then 111 else if k = 8 then 112 else if k = 9 then 113 else if k = 10 then 114 else if k = 11 then 115 else if k = 12 then 116 else if k = 13 then 117 else 118
/-- The question's type for an interface, and its methods as bits. -/
def qfc (f : Int) : Nat :=
  if f = 0 then 119 else if f = 1 then 120 else if f = 2 then 121 else if f = 3 then 122 else if f = 4 then 123 else if f = 5 then 124 else if f = 6 then 125 else if f = 7 then 126 else if f = 8 then 127 else if f = 9 then 128 else 118
def mbits (f : Int) : Int :=
  if f = 0 then 1 else if f = 1 then 2 else if f = 2 then 4 else if f = 3 then 8 else if f = 4 then 16 else if f = 5 then 32 else if f = 6 then 3 else if f = 7 then 17 else if f = 8 then 48 else if f = 9 then 19 else 0

set_option maxRecDepth 100000 in
set_option maxHeartbeats 1000000 in
theorem typeOf1 (w : World) : Calls Tryz.prog 70 #[.int .i64 1] w fun e w' => e = .returned (.iface (qty 1) (.agg #[])) ∧ w' = w := by
  show Calls Tryz.prog 70 #[.int .i64 1] w fun e w' => e = .returned (.iface 105 (.agg #[])) ∧ w' = w
  go_enter Tryz.func70, Tryz.ntmps70
  go_wp2
  go_ret
  exact ⟨rfl, rfl⟩
set_option maxRecDepth 100000 in
set_option maxHeartbeats 1000000 in
theorem typeOf2 (w : World) : Calls Tryz.prog 70 #[.int .i64 2] w fun e w' => e = .returned (.iface (qty 2) (.agg #[])) ∧ w' = w := by
  show Calls Tryz.prog 70 #[.int .i64 2] w fun e w' => e = .returned (.iface 106 (.agg #[])) ∧ w' = w
  go_enter Tryz.func70, Tryz.ntmps70
  go_wp2
  go_ret
  exact ⟨rfl, rfl⟩
set_option maxRecDepth 100000 in
set_option maxHeartbeats 1000000 in
theorem typeOf3 (w : World) : Calls Tryz.prog 70 #[.int .i64 3] w fun e w' => e = .returned (.iface (qty 3) (.agg #[])) ∧ w' = w := by
  show Calls Tryz.prog 70 #[.int .i64 3] w fun e w' => e = .returned (.iface 107 (.agg #[])) ∧ w' = w
  go_enter Tryz.func70, Tryz.ntmps70
  go_wp2
  go_ret
  exact ⟨rfl, rfl⟩
set_option maxRecDepth 100000 in
set_option maxHeartbeats 1000000 in
theorem typeOf4 (w : World) : Calls Tryz.prog 70 #[.int .i64 4] w fun e w' => e = .returned (.iface (qty 4) (.agg #[])) ∧ w' = w := by
  show Calls Tryz.prog 70 #[.int .i64 4] w fun e w' => e = .returned (.iface 108 (.agg #[])) ∧ w' = w
  go_enter Tryz.func70, Tryz.ntmps70
  go_wp2
  go_ret
  exact ⟨rfl, rfl⟩
set_option maxRecDepth 100000 in
set_option maxHeartbeats 1000000 in
theorem typeOf5 (w : World) : Calls Tryz.prog 70 #[.int .i64 5] w fun e w' => e = .returned (.iface (qty 5) (.agg #[])) ∧ w' = w := by
  show Calls Tryz.prog 70 #[.int .i64 5] w fun e w' => e = .returned (.iface 109 (.agg #[])) ∧ w' = w
  go_enter Tryz.func70, Tryz.ntmps70
  go_wp2
  go_ret
  exact ⟨rfl, rfl⟩
set_option maxRecDepth 100000 in
set_option maxHeartbeats 1000000 in
theorem typeOf6 (w : World) : Calls Tryz.prog 70 #[.int .i64 6] w fun e w' => e = .returned (.iface (qty 6) (.agg #[])) ∧ w' = w := by
  show Calls Tryz.prog 70 #[.int .i64 6] w fun e w' => e = .returned (.iface 110 (.agg #[])) ∧ w' = w
  go_enter Tryz.func70, Tryz.ntmps70
  go_wp2
  go_ret
  exact ⟨rfl, rfl⟩
set_option maxRecDepth 100000 in
set_option maxHeartbeats 1000000 in
theorem typeOf7 (w : World) : Calls Tryz.prog 70 #[.int .i64 7] w fun e w' => e = .returned (.iface (qty 7) (.agg #[])) ∧ w' = w := by
  show Calls Tryz.prog 70 #[.int .i64 7] w fun e w' => e = .returned (.iface 111 (.agg #[])) ∧ w' = w
  go_enter Tryz.func70, Tryz.ntmps70
  go_wp2
  go_ret
  exact ⟨rfl, rfl⟩
set_option maxRecDepth 100000 in
set_option maxHeartbeats 1000000 in
theorem typeOf8 (w : World) : Calls Tryz.prog 70 #[.int .i64 8] w fun e w' => e = .returned (.iface (qty 8) (.agg #[])) ∧ w' = w := by
  show Calls Tryz.prog 70 #[.int .i64 8] w fun e w' => e = .returned (.iface 112 (.agg #[])) ∧ w' = w
  go_enter Tryz.func70, Tryz.ntmps70
  go_wp2
  go_ret
  exact ⟨rfl, rfl⟩
set_option maxRecDepth 100000 in
set_option maxHeartbeats 1000000 in
theorem typeOf9 (w : World) : Calls Tryz.prog 70 #[.int .i64 9] w fun e w' => e = .returned (.iface (qty 9) (.agg #[])) ∧ w' = w := by
  show Calls Tryz.prog 70 #[.int .i64 9] w fun e w' => e = .returned (.iface 113 (.agg #[])) ∧ w' = w
  go_enter Tryz.func70, Tryz.ntmps70
  go_wp2
  go_ret
  exact ⟨rfl, rfl⟩
set_option maxRecDepth 100000 in
set_option maxHeartbeats 1000000 in
theorem typeOf10 (w : World) : Calls Tryz.prog 70 #[.int .i64 10] w fun e w' => e = .returned (.iface (qty 10) (.agg #[])) ∧ w' = w := by
  show Calls Tryz.prog 70 #[.int .i64 10] w fun e w' => e = .returned (.iface 114 (.agg #[])) ∧ w' = w
  go_enter Tryz.func70, Tryz.ntmps70
  go_wp2
  go_ret
  exact ⟨rfl, rfl⟩
set_option maxRecDepth 100000 in
set_option maxHeartbeats 1000000 in
theorem typeOf11 (w : World) : Calls Tryz.prog 70 #[.int .i64 11] w fun e w' => e = .returned (.iface (qty 11) (.agg #[])) ∧ w' = w := by
  show Calls Tryz.prog 70 #[.int .i64 11] w fun e w' => e = .returned (.iface 115 (.agg #[])) ∧ w' = w
  go_enter Tryz.func70, Tryz.ntmps70
  go_wp2
  go_ret
  exact ⟨rfl, rfl⟩
set_option maxRecDepth 100000 in
set_option maxHeartbeats 1000000 in
theorem typeOf12 (w : World) : Calls Tryz.prog 70 #[.int .i64 12] w fun e w' => e = .returned (.iface (qty 12) (.agg #[])) ∧ w' = w := by
  show Calls Tryz.prog 70 #[.int .i64 12] w fun e w' => e = .returned (.iface 116 (.agg #[])) ∧ w' = w
  go_enter Tryz.func70, Tryz.ntmps70
  go_wp2
  go_ret
  exact ⟨rfl, rfl⟩
set_option maxRecDepth 100000 in
set_option maxHeartbeats 1000000 in
theorem typeOf13 (w : World) : Calls Tryz.prog 70 #[.int .i64 13] w fun e w' => e = .returned (.iface (qty 13) (.agg #[])) ∧ w' = w := by
  show Calls Tryz.prog 70 #[.int .i64 13] w fun e w' => e = .returned (.iface 117 (.agg #[])) ∧ w' = w
  go_enter Tryz.func70, Tryz.ntmps70
  go_wp2
  go_ret
  exact ⟨rfl, rfl⟩
set_option maxRecDepth 100000 in
set_option maxHeartbeats 1000000 in
theorem typeOfNo (k : Int) (h : k < 1 ∨ 13 < k) (w : World) : Calls Tryz.prog 70 #[.int .i64 k] w fun e w' => e = .returned (.iface (qty k) (.agg #[])) ∧ w' = w := by
  have hq : qty k = 118 := by
    unfold qty
    rw [if_neg (show ¬ k = 1 by omega)]
    rw [if_neg (show ¬ k = 2 by omega)]
    rw [if_neg (show ¬ k = 3 by omega)]
    rw [if_neg (show ¬ k = 4 by omega)]
    rw [if_neg (show ¬ k = 5 by omega)]
    rw [if_neg (show ¬ k = 6 by omega)]
    rw [if_neg (show ¬ k = 7 by omega)]
    rw [if_neg (show ¬ k = 8 by omega)]
    rw [if_neg (show ¬ k = 9 by omega)]
    rw [if_neg (show ¬ k = 10 by omega)]
    rw [if_neg (show ¬ k = 11 by omega)]
    rw [if_neg (show ¬ k = 12 by omega)]
    rw [if_neg (show ¬ k = 13 by omega)]
  rw [hq]
  have h1 : (k == 1) = false := by simp; omega
  have h2 : (k == 2) = false := by simp; omega
  have h3 : (k == 3) = false := by simp; omega
  have h4 : (k == 4) = false := by simp; omega
  have h5 : (k == 5) = false := by simp; omega
  have h6 : (k == 6) = false := by simp; omega
  have h7 : (k == 7) = false := by simp; omega
  have h8 : (k == 8) = false := by simp; omega
  have h9 : (k == 9) = false := by simp; omega
  have h10 : (k == 10) = false := by simp; omega
  have h11 : (k == 11) = false := by simp; omega
  have h12 : (k == 12) = false := by simp; omega
  have h13 : (k == 13) = false := by simp; omega
  clear h hq
  go_enter Tryz.func70, Tryz.ntmps70
  go_wp2
  go_ret
  exact ⟨rfl, rfl⟩
theorem typeOf_any (k : Int) (w : World) : Calls Tryz.prog 70 #[.int .i64 k] w fun e w' => e = .returned (.iface (qty k) (.agg #[])) ∧ w' = w := by
  by_cases h : k < 1 ∨ 13 < k
  · exact typeOfNo k h w
  have hk : k = 1 ∨ k = 2 ∨ k = 3 ∨ k = 4 ∨ k = 5 ∨ k = 6 ∨ k = 7 ∨ k = 8 ∨ k = 9 ∨ k = 10 ∨ k = 11 ∨ k = 12 ∨ k = 13 := by omega
  rcases hk with rfl | rfl | rfl | rfl | rfl | rfl | rfl | rfl | rfl | rfl | rfl | rfl | rfl
  · exact typeOf1 w
  · exact typeOf2 w
  · exact typeOf3 w
  · exact typeOf4 w
  · exact typeOf5 w
  · exact typeOf6 w
  · exact typeOf7 w
  · exact typeOf8 w
  · exact typeOf9 w
  · exact typeOf10 w
  · exact typeOf11 w
  · exact typeOf12 w
  · exact typeOf13 w

set_option maxRecDepth 100000 in
set_option maxHeartbeats 1000000 in
theorem interfaceOf0 (w : World) : Calls Tryz.prog 71 #[.int .i64 0] w fun e w' => e = .returned (.agg #[.iface (qfc 0) (.agg #[]), .int .u8 (mbits 0)]) ∧ Below w.heap.size w w' := by
  show Calls Tryz.prog 71 #[.int .i64 0] w fun e w' => e = .returned (.agg #[.iface 119 (.agg #[]), .int .u8 1]) ∧ Below w.heap.size w w'
  go_enter Tryz.func71, Tryz.ntmps71
  go_wp2
  refine bodyPost_ret (v := .agg #[.iface 119 (.agg #[]), .int .u8 1]) (by simp [results, Tryz.results71, go_sem]) rfl ⟨rfl, ?_⟩
  exact below1 w _
set_option maxRecDepth 100000 in
set_option maxHeartbeats 1000000 in
theorem interfaceOf1 (w : World) : Calls Tryz.prog 71 #[.int .i64 1] w fun e w' => e = .returned (.agg #[.iface (qfc 1) (.agg #[]), .int .u8 (mbits 1)]) ∧ Below w.heap.size w w' := by
  show Calls Tryz.prog 71 #[.int .i64 1] w fun e w' => e = .returned (.agg #[.iface 120 (.agg #[]), .int .u8 2]) ∧ Below w.heap.size w w'
  go_enter Tryz.func71, Tryz.ntmps71
  go_wp2
  refine bodyPost_ret (v := .agg #[.iface 120 (.agg #[]), .int .u8 2]) (by simp [results, Tryz.results71, go_sem]) rfl ⟨rfl, ?_⟩
  exact below1 w _
set_option maxRecDepth 100000 in
set_option maxHeartbeats 1000000 in
theorem interfaceOf2 (w : World) : Calls Tryz.prog 71 #[.int .i64 2] w fun e w' => e = .returned (.agg #[.iface (qfc 2) (.agg #[]), .int .u8 (mbits 2)]) ∧ Below w.heap.size w w' := by
  show Calls Tryz.prog 71 #[.int .i64 2] w fun e w' => e = .returned (.agg #[.iface 121 (.agg #[]), .int .u8 4]) ∧ Below w.heap.size w w'
  go_enter Tryz.func71, Tryz.ntmps71
  go_wp2
  refine bodyPost_ret (v := .agg #[.iface 121 (.agg #[]), .int .u8 4]) (by simp [results, Tryz.results71, go_sem]) rfl ⟨rfl, ?_⟩
  exact below1 w _
set_option maxRecDepth 100000 in
set_option maxHeartbeats 1000000 in
theorem interfaceOf3 (w : World) : Calls Tryz.prog 71 #[.int .i64 3] w fun e w' => e = .returned (.agg #[.iface (qfc 3) (.agg #[]), .int .u8 (mbits 3)]) ∧ Below w.heap.size w w' := by
  show Calls Tryz.prog 71 #[.int .i64 3] w fun e w' => e = .returned (.agg #[.iface 122 (.agg #[]), .int .u8 8]) ∧ Below w.heap.size w w'
  go_enter Tryz.func71, Tryz.ntmps71
  go_wp2
  refine bodyPost_ret (v := .agg #[.iface 122 (.agg #[]), .int .u8 8]) (by simp [results, Tryz.results71, go_sem]) rfl ⟨rfl, ?_⟩
  exact below1 w _
set_option maxRecDepth 100000 in
set_option maxHeartbeats 1000000 in
theorem interfaceOf4 (w : World) : Calls Tryz.prog 71 #[.int .i64 4] w fun e w' => e = .returned (.agg #[.iface (qfc 4) (.agg #[]), .int .u8 (mbits 4)]) ∧ Below w.heap.size w w' := by
  show Calls Tryz.prog 71 #[.int .i64 4] w fun e w' => e = .returned (.agg #[.iface 123 (.agg #[]), .int .u8 16]) ∧ Below w.heap.size w w'
  go_enter Tryz.func71, Tryz.ntmps71
  go_wp2
  refine bodyPost_ret (v := .agg #[.iface 123 (.agg #[]), .int .u8 16]) (by simp [results, Tryz.results71, go_sem]) rfl ⟨rfl, ?_⟩
  exact below1 w _
set_option maxRecDepth 100000 in
set_option maxHeartbeats 1000000 in
theorem interfaceOf5 (w : World) : Calls Tryz.prog 71 #[.int .i64 5] w fun e w' => e = .returned (.agg #[.iface (qfc 5) (.agg #[]), .int .u8 (mbits 5)]) ∧ Below w.heap.size w w' := by
  show Calls Tryz.prog 71 #[.int .i64 5] w fun e w' => e = .returned (.agg #[.iface 124 (.agg #[]), .int .u8 32]) ∧ Below w.heap.size w w'
  go_enter Tryz.func71, Tryz.ntmps71
  go_wp2
  refine bodyPost_ret (v := .agg #[.iface 124 (.agg #[]), .int .u8 32]) (by simp [results, Tryz.results71, go_sem]) rfl ⟨rfl, ?_⟩
  exact below1 w _
set_option maxRecDepth 100000 in
set_option maxHeartbeats 1000000 in
theorem interfaceOf6 (w : World) : Calls Tryz.prog 71 #[.int .i64 6] w fun e w' => e = .returned (.agg #[.iface (qfc 6) (.agg #[]), .int .u8 (mbits 6)]) ∧ Below w.heap.size w w' := by
  show Calls Tryz.prog 71 #[.int .i64 6] w fun e w' => e = .returned (.agg #[.iface 125 (.agg #[]), .int .u8 3]) ∧ Below w.heap.size w w'
  go_enter Tryz.func71, Tryz.ntmps71
  go_wp2
  refine bodyPost_ret (v := .agg #[.iface 125 (.agg #[]), .int .u8 3]) (by simp [results, Tryz.results71, go_sem]) rfl ⟨rfl, ?_⟩
  exact below1 w _
set_option maxRecDepth 100000 in
set_option maxHeartbeats 1000000 in
theorem interfaceOf7 (w : World) : Calls Tryz.prog 71 #[.int .i64 7] w fun e w' => e = .returned (.agg #[.iface (qfc 7) (.agg #[]), .int .u8 (mbits 7)]) ∧ Below w.heap.size w w' := by
  show Calls Tryz.prog 71 #[.int .i64 7] w fun e w' => e = .returned (.agg #[.iface 126 (.agg #[]), .int .u8 17]) ∧ Below w.heap.size w w'
  go_enter Tryz.func71, Tryz.ntmps71
  go_wp2
  refine bodyPost_ret (v := .agg #[.iface 126 (.agg #[]), .int .u8 17]) (by simp [results, Tryz.results71, go_sem]) rfl ⟨rfl, ?_⟩
  exact below1 w _
set_option maxRecDepth 100000 in
set_option maxHeartbeats 1000000 in
theorem interfaceOf8 (w : World) : Calls Tryz.prog 71 #[.int .i64 8] w fun e w' => e = .returned (.agg #[.iface (qfc 8) (.agg #[]), .int .u8 (mbits 8)]) ∧ Below w.heap.size w w' := by
  show Calls Tryz.prog 71 #[.int .i64 8] w fun e w' => e = .returned (.agg #[.iface 127 (.agg #[]), .int .u8 48]) ∧ Below w.heap.size w w'
  go_enter Tryz.func71, Tryz.ntmps71
  go_wp2
  refine bodyPost_ret (v := .agg #[.iface 127 (.agg #[]), .int .u8 48]) (by simp [results, Tryz.results71, go_sem]) rfl ⟨rfl, ?_⟩
  exact below1 w _
set_option maxRecDepth 100000 in
set_option maxHeartbeats 1000000 in
theorem interfaceOf9 (w : World) : Calls Tryz.prog 71 #[.int .i64 9] w fun e w' => e = .returned (.agg #[.iface (qfc 9) (.agg #[]), .int .u8 (mbits 9)]) ∧ Below w.heap.size w w' := by
  show Calls Tryz.prog 71 #[.int .i64 9] w fun e w' => e = .returned (.agg #[.iface 128 (.agg #[]), .int .u8 19]) ∧ Below w.heap.size w w'
  go_enter Tryz.func71, Tryz.ntmps71
  go_wp2
  refine bodyPost_ret (v := .agg #[.iface 128 (.agg #[]), .int .u8 19]) (by simp [results, Tryz.results71, go_sem]) rfl ⟨rfl, ?_⟩
  exact below1 w _
set_option maxRecDepth 100000 in
set_option maxHeartbeats 1000000 in
theorem interfaceOfNo (f : Int) (h : f < 0 ∨ 9 < f) (w : World) : Calls Tryz.prog 71 #[.int .i64 f] w fun e w' => e = .returned (.agg #[.iface (qfc f) (.agg #[]), .int .u8 (mbits f)]) ∧ Below w.heap.size w w' := by
  have hq : qfc f = 118 := by
    unfold qfc
    rw [if_neg (show ¬ f = 0 by omega)]
    rw [if_neg (show ¬ f = 1 by omega)]
    rw [if_neg (show ¬ f = 2 by omega)]
    rw [if_neg (show ¬ f = 3 by omega)]
    rw [if_neg (show ¬ f = 4 by omega)]
    rw [if_neg (show ¬ f = 5 by omega)]
    rw [if_neg (show ¬ f = 6 by omega)]
    rw [if_neg (show ¬ f = 7 by omega)]
    rw [if_neg (show ¬ f = 8 by omega)]
    rw [if_neg (show ¬ f = 9 by omega)]
  have hm : mbits f = 0 := by
    unfold mbits
    rw [if_neg (show ¬ f = 0 by omega)]
    rw [if_neg (show ¬ f = 1 by omega)]
    rw [if_neg (show ¬ f = 2 by omega)]
    rw [if_neg (show ¬ f = 3 by omega)]
    rw [if_neg (show ¬ f = 4 by omega)]
    rw [if_neg (show ¬ f = 5 by omega)]
    rw [if_neg (show ¬ f = 6 by omega)]
    rw [if_neg (show ¬ f = 7 by omega)]
    rw [if_neg (show ¬ f = 8 by omega)]
    rw [if_neg (show ¬ f = 9 by omega)]
  rw [hq, hm]
  have h0 : (f == 0) = false := by simp; omega
  have h1 : (f == 1) = false := by simp; omega
  have h2 : (f == 2) = false := by simp; omega
  have h3 : (f == 3) = false := by simp; omega
  have h4 : (f == 4) = false := by simp; omega
  have h5 : (f == 5) = false := by simp; omega
  have h6 : (f == 6) = false := by simp; omega
  have h7 : (f == 7) = false := by simp; omega
  have h8 : (f == 8) = false := by simp; omega
  have h9 : (f == 9) = false := by simp; omega
  clear h hq hm
  go_enter Tryz.func71, Tryz.ntmps71
  go_wp2
  refine bodyPost_ret (v := .agg #[.iface 118 (.agg #[]), .int .u8 0]) (by simp [results, Tryz.results71, go_sem]) rfl ⟨rfl, ?_⟩
  exact below1 w _
theorem interfaceOf_any (f : Int) (w : World) : Calls Tryz.prog 71 #[.int .i64 f] w fun e w' => e = .returned (.agg #[.iface (qfc f) (.agg #[]), .int .u8 (mbits f)]) ∧ Below w.heap.size w w' := by
  by_cases h : f < 0 ∨ 9 < f
  · exact interfaceOfNo f h w
  have hk : f = 0 ∨ f = 1 ∨ f = 2 ∨ f = 3 ∨ f = 4 ∨ f = 5 ∨ f = 6 ∨ f = 7 ∨ f = 8 ∨ f = 9 := by omega
  rcases hk with rfl | rfl | rfl | rfl | rfl | rfl | rfl | rfl | rfl | rfl
  · exact interfaceOf0 w
  · exact interfaceOf1 w
  · exact interfaceOf2 w
  · exact interfaceOf3 w
  · exact interfaceOf4 w
  · exact interfaceOf5 w
  · exact interfaceOf6 w
  · exact interfaceOf7 w
  · exact interfaceOf8 w
  · exact interfaceOf9 w

theorem impl_none (k f : Int) (h : f < 0 ∨ 9 < f) : impl k f = false := by
  have : mths f = [] := by
    unfold mths
    rw [if_neg (show ¬ f = 0 by omega)]
    rw [if_neg (show ¬ f = 1 by omega)]
    rw [if_neg (show ¬ f = 2 by omega)]
    rw [if_neg (show ¬ f = 3 by omega)]
    rw [if_neg (show ¬ f = 4 by omega)]
    rw [if_neg (show ¬ f = 5 by omega)]
    rw [if_neg (show ¬ f = 6 by omega)]
    rw [if_neg (show ¬ f = 7 by omega)]
    rw [if_neg (show ¬ f = 8 by omega)]
    rw [if_neg (show ¬ f = 9 by omega)]
  unfold impl
  rw [this]
  simp

end Go.Proofs.YtajagjcfmaggiaaGreatDoor
/- An assertion of one value that does not hold panics, and the panic is caught; no condition but those that each theorem names. -/
namespace Go.Proofs.YtajagjcfmaggiaaGreatDoor
open Go.RowKit

theorem tae_any {P : Program} {T E : TypeId} (hr : P.rt.typeAssertionError = T) (hu : P.underlying T = some (.pointer E)) (s d : Option TypeId) (a : TypeId) (m : String) : ∃ o, ∀ w : World, (runtimePanic (.typeAssertion s d a m) : Sem Value).run P w = .halt (.panic (.iface T (.pointer (some ⟨w.heap.size, 0, none⟩)))) (w.alloc o) := by
  refine ⟨.cells #[match s with | some t => typeHandle P t | none => .pointer none, match d with | some t => typeHandle P t | none => .pointer none, typeHandle P a, strVal m] E, fun w => ?_⟩
  simp [runtimePanic, elemOf, newVar, newRow, hr, run_underlying hu]
  try rfl
theorem tae_panic (s d : Option TypeId) (a : TypeId) (m : String) : ∃ o, ∀ w : World, (runtimePanic (.typeAssertion s d a m) : Sem Value).run Tryz.prog w = .halt (.panic (.iface 15 (.pointer (some ⟨w.heap.size, 0, none⟩)))) (w.alloc o) :=
  tae_any (by kernel_rfl) Tryz.underlying15 s d a m

/-- An assertion to a type that is none of an interface: it does not hold. -/
theorem must_ty {t x asserted : TypeId} {d : TypeDesc} {v : Value} (hU : Tryz.prog.underlying asserted = some d) (hd : ∀ m, d ≠ .interface m) (hne : t ≠ asserted) :
    ∃ o, ∀ w : World, (Instr.typeAssert (.iface t v) x asserted false).run Tryz.prog w = .halt (.panic (.iface 15 (.pointer (some ⟨w.heap.size, 0, none⟩)))) (w.alloc o) := by
  obtain ⟨o, ho⟩ := tae_panic (some x) (some t) asserted ""
  refine ⟨o, fun w => ?_⟩
  cases d with
  | interface m => exact absurd rfl (hd m)
  | _ => simp [Instr.typeAssert, run_underlying hU, hne, ho]
theorem must_nil {x asserted : TypeId} {d : TypeDesc} (hU : Tryz.prog.underlying asserted = some d) :
    ∃ o, ∀ w : World, (Instr.typeAssert .nilIface x asserted false).run Tryz.prog w = .halt (.panic (.iface 15 (.pointer (some ⟨w.heap.size, 0, none⟩)))) (w.alloc o) := by
  by_cases hd : ∃ m, d = .interface m
  · obtain ⟨m, rfl⟩ := hd
    obtain ⟨o, ho⟩ := tae_panic none none asserted ""
    exact ⟨o, fun w => by simp [Instr.typeAssert, run_underlying hU, ho]⟩
  · obtain ⟨o, ho⟩ := tae_panic (some x) none asserted ""
    refine ⟨o, fun w => ?_⟩
    cases d with
    | interface m => exact absurd ⟨m, rfl⟩ hd
    | _ => simp [Instr.typeAssert, run_underlying hU, ho]
/-- .. to an interface: a method is lacking. -/
theorem must_lacks {t x asserted : TypeId} {want : Array (String × TypeId)} {v : Value} (hU : Tryz.prog.underlying asserted = some (.interface want)) (h : (Tryz.prog.info? t).map (fun i => (lacking want i.methods).isEmpty) = some false) :
    ∃ o, ∀ w : World, (Instr.typeAssert (.iface t v) x asserted false).run Tryz.prog w = .halt (.panic (.iface 15 (.pointer (some ⟨w.heap.size, 0, none⟩)))) (w.alloc o) := by
  obtain ⟨i, hi, hl⟩ := Option.map_eq_some_iff.1 h
  obtain ⟨m, hm⟩ := missingMethod_some (want := want) (got := i.methods) (fun e => by rw [e] at hl; cases hl)
  obtain ⟨o, ho⟩ := tae_panic none (some t) asserted m
  exact ⟨o, fun w => by simp [Instr.typeAssert, run_underlying hU, typeInfo, hi, hm, ho]⟩
theorem must_has {t x asserted : TypeId} {want : Array (String × TypeId)} {v : Value} (hU : Tryz.prog.underlying asserted = some (.interface want)) (h : (Tryz.prog.info? t).map (fun i => (lacking want i.methods).isEmpty) = some true) (w : World) :
    (Instr.typeAssert (.iface t v) x asserted false).run Tryz.prog w = .ok (.iface t v) w := by
  obtain ⟨i, hi, hl⟩ := Option.map_eq_some_iff.1 h
  simp [Instr.typeAssert, run_underlying hU, typeInfo, hi, missingMethod_none (List.isEmpty_iff.1 hl)]
theorem must_is {t x : TypeId} {d : TypeDesc} {v : Value} (hU : Tryz.prog.underlying t = some d) (hd : ∀ m, d ≠ .interface m) (w : World) :
    (Instr.typeAssert (.iface t v) x t false).run Tryz.prog w = .ok v w := by
  cases d with
  | interface m => exact absurd rfl (hd m)
  | _ => simp [Instr.typeAssert, run_underlying hU]

theorem new_c (w : World) (v : Value) (T : TypeId) : (w.alloc (.cells #[v] T)).cell? ⟨w.heap.size, 0, none⟩ = some v ∧ (w.alloc (.cells #[v] T)).frozen? ⟨w.heap.size, 0, none⟩ = false := by
  have h := heap_alloc_new w (.cells #[v] T)
  generalize w.heap.size = N at h ⊢
  generalize w.alloc (.cells #[v] T) = w' at h ⊢
  simp [World.cell?, World.frozen?, h]

/-- The panic of an assertion that does not hold. -/
def Pan (w w' : World) (e : Ending) : Prop := ∃ a, e = .panicked [{ v := .iface 15 (.pointer (some a)), recovered := false }] ∧ Below w.heap.size w w'

theorem cau_idle (p : Addr) (w : World) :
    CallsD Tryz.prog 138 #[.pointer (some p)] .returning w fun e u' w' => e = .returned (.tuple #[]) ∧ u' = .returning ∧ w' = w := by
  have hn : ∀ w : World, (Instr.typeAssert .nilIface 20 212 true).run Tryz.prog w = .ok (.tuple #[.nilIface, .bool false]) w := fun w => assert_nil Tryz.underlying212 (by kernel_rfl)
  refine callsD_of_wpS Tryz.func138 rfl fun c₀ cs hu => ?_
  apply wpS_seq
  apply wpS_region
  simp [wpOpsS, go_sem, recoverD, hu, Tryz.ntmps138, Exit.thenS, hn]
  apply wpS_seq
  apply wpS_region
  simp [wpOpsS, go_sem, Exit.thenS]
  refine wpS_cond (t := false) (by simp [Act.eval, Array.replicate]) ?_
  simp only [Bool.false_eq_true, if_false]
  refine wpS_of_wp (wp_skip ?_)
  cases c₀
  simp_all [bodyPostS, results, Tryz.results138]

theorem cau_catch (A : Nat) (pa : Addr) (older : List PanicEntry) (w : World) (y : Int) (hc : w.cell? ⟨A, 0, none⟩ = some (.int .i64 y)) (hz : w.frozen? ⟨A, 0, none⟩ = false) :
    CallsD Tryz.prog 138 #[.pointer (some ⟨A, 0, none⟩)] (.panicking ({ v := .iface 15 (.pointer (some pa)), recovered := false } :: older)) w fun e u' w' =>
      e = .returned (.tuple #[]) ∧ u' = .panicking ({ v := .iface 15 (.pointer (some pa)), recovered := true } :: older) ∧ w' = w.setCell ⟨A, 0, none⟩ (.int .i64 20) := by
  have hn : ∀ w : World, (Instr.typeAssert (.iface 15 (.pointer (some pa))) 20 212 true).run Tryz.prog w = .ok (.tuple #[.iface 15 (.pointer (some pa)), .bool true]) w := fun w => run_typeAssert_hasB Tryz.underlying212 (by kernel_rfl) _ _ w
  refine callsD_of_wpS Tryz.func138 rfl fun c₀ cs hu => ?_
  apply wpS_seq
  apply wpS_region
  simp [wpOpsS, go_sem, recoverD, hu, Tryz.ntmps138, Exit.thenS, hn]
  apply wpS_seq
  apply wpS_region
  simp [wpOpsS, go_sem, Exit.thenS]
  refine wpS_cond (t := true) (by simp [Act.eval, Array.replicate]) ?_
  simp only [if_true]
  apply wpS_region
  simp [wpOpsS, go_sem, hc, hz, bodyPostS, results, Tryz.results138]

/-- The question of type Q is asked, panicking, by function F. -/
def MethM (Q F : Nat) : Prop := (∀ w : World, (method 367 Q (.agg #[]) "conduit/want.must").run Tryz.prog w = .ok (F, .agg #[]) w) ∧ ∀ (args : Array Value) (w : World), (callFunc F args).run Tryz.prog w = .ok (.enter F args) w

set_option maxRecDepth 100000 in
set_option maxHeartbeats 1000000 in
theorem caught_no (Q F : Nat) (u : Value) (w : World) (hm : MethM Q F) (hF : ∀ w, Calls Tryz.prog F #[.agg #[], u] w fun e w' => Pan w w' e) :
    Calls Tryz.prog 131 #[.iface Q (.agg #[]), u] w fun e w' => e = .returned (.tuple #[.nilIface, .int .i64 20]) ∧ Below w.heap.size w w' := by
  have hmf : ∀ (fn : Fn) (first cap : Array Value) (w : World), (Instr.makeFunc fn first cap).run Tryz.prog w = .ok (.func fn first cap) w := fun _ _ _ _ => rfl
  obtain ⟨hmm, hcf⟩ := hm
  have HF := Lib.hid hF
  clear hF
  go_enter_defers Tryz.func131, Tryz.ntmps131
  go_wp2_with fail
  refine (HF.out _).mono ?_
  rintro e w1 ⟨pa, rfl, b1⟩
  have b0 := below1 w (.cells #[.int .i64 0] 29)
  have c1 : w1.cell? ⟨w.heap.size, 0, none⟩ = some (.int .i64 0) := (b1.cell (p := ⟨w.heap.size, 0, none⟩) (by simp)).trans (new_c w _ 29).1
  have f1 : w1.frozen? ⟨w.heap.size, 0, none⟩ = false := (b1.frozen (p := ⟨w.heap.size, 0, none⟩) (by simp)).trans (new_c w (.int .i64 0) 29).2
  have B1 := b0.trans (b1.mono b0.size)
  go_wp2
  refine leaves_cons (f := 138) (args := #[.pointer (some ⟨w.heap.size, 0, none⟩)]) (by simp) (by simp [go_sem]) ?_
  refine (cau_catch w.heap.size pa [] _ 0 c1 f1).mono ?_
  rintro e u' w'' ⟨rfl, rfl, rfl⟩
  have g1 : (w1.setCell ⟨w.heap.size, 0, none⟩ (.int .i64 20)).cell? ⟨w.heap.size, 0, none⟩ = some (.int .i64 20) := by simp [World.cell?_setCell_same, c1]
  simp [Leaves, settle, results, Tryz.results131, go_sem, g1]
  exact B1.setCell (Nat.le_refl _) _

set_option maxRecDepth 100000 in
set_option maxHeartbeats 1000000 in
theorem caught_yes (Q F : Nat) (u : Value) (w : World) (hm : MethM Q F) (hF : ∀ w, Calls Tryz.prog F #[.agg #[], u] w fun e w' => e = .returned u ∧ Below w.heap.size w w') :
    Calls Tryz.prog 131 #[.iface Q (.agg #[]), u] w fun e w' => e = .returned (.tuple #[u, .int .i64 0]) ∧ Below w.heap.size w w' := by
  have hmf : ∀ (fn : Fn) (first cap : Array Value) (w : World), (Instr.makeFunc fn first cap).run Tryz.prog w = .ok (.func fn first cap) w := fun _ _ _ _ => rfl
  obtain ⟨hmm, hcf⟩ := hm
  have HF := Lib.hid hF
  clear hF
  go_enter_defers Tryz.func131, Tryz.ntmps131
  go_wp2_with fail
  refine (HF.out _).mono ?_
  rintro e w1 ⟨rfl, b1⟩
  have b0 := below1 w (.cells #[.int .i64 0] 29)
  have c1 : w1.cell? ⟨w.heap.size, 0, none⟩ = some (.int .i64 0) := (b1.cell (p := ⟨w.heap.size, 0, none⟩) (by simp)).trans (new_c w _ 29).1
  have f1 : w1.frozen? ⟨w.heap.size, 0, none⟩ = false := (b1.frozen (p := ⟨w.heap.size, 0, none⟩) (by simp)).trans (new_c w (.int .i64 0) 29).2
  have B1 := b0.trans (b1.mono b0.size)
  go_wp2
  refine leaves_cons (f := 138) (args := #[.pointer (some ⟨w.heap.size, 0, none⟩)]) (by simp) (by simp [go_sem]) ?_
  refine (cau_idle ⟨w.heap.size, 0, none⟩ _).mono ?_
  rintro e u' w'' ⟨rfl, rfl, rfl⟩
  have g1 : (w1.setCell ⟨w.heap.size, 0, none⟩ (.int .i64 0)).cell? ⟨w.heap.size, 0, none⟩ = some (.int .i64 0) := by simp [World.cell?_setCell_same, c1]
  simp [Leaves, settle, results, Tryz.results131, go_sem, g1]
  exact B1.setCell (Nat.le_refl _) _
end Go.Proofs.YtajagjcfmaggiaaGreatDoor
