/- The package's Has answers the table's answer at every two numbers, in new memory alone; no condition. And the law that asks it. -/
import Derived.Test.YtoagofdmbapfeabGreatDoorKinds2O
namespace Go.Proofs.YtoagofdmbapfeabGreatDoor
open Go.RowKit

set_option maxRecDepth 100000 in
set_option maxHeartbeats 1000000 in
theorem value_kind (k : Int) (X : Value → Prop) (H : ∀ w, Calls Tryz.prog 27 #[.agg #[.map none], .agg #[.int .i64 k, .int .i64 0, .int .u64 0, .string ⟨#[]⟩, .slice none 0 0]] w fun e w' => ∃ u, e = .returned u ∧ X u ∧ Below w.heap.size w w') (w : World) :
    Calls Tryz.prog 25 #[.agg #[.int .i64 k, .int .i64 0, .int .u64 0, .string ⟨#[]⟩, .slice none 0 0]] w fun e w' => ∃ u, e = .returned u ∧ X u ∧ Below w.heap.size w w' := by
  have HH := Lib.hid H
  clear H
  go_enter Tryz.func25, Tryz.ntmps25
  go_wp2_with fail
  refine (HH.out _).mono ?_
  rintro e w1 ⟨u, rfl, hx, b1⟩
  go_wp2
  go_ret
  exact ⟨u, rfl, hx, ((Below.refl _ w).alloc (Nat.le_refl _) _).trans (b1.mono (by simp))⟩

set_option maxRecDepth 100000 in
set_option maxHeartbeats 1000000 in
theorem has_of (k m : Int) (b : Bool) (X : Value → Prop) (H : ∀ w, Calls Tryz.prog 27 #[.agg #[.map none], .agg #[.int .i64 k, .int .i64 0, .int .u64 0, .string ⟨#[]⟩, .slice none 0 0]] w fun e w' => ∃ u, e = .returned u ∧ X u ∧ Below w.heap.size w w')
    (A : ∀ u w, X u → Calls Tryz.prog 24 #[u, .int .i64 m] w fun e w' => e = .returned (.bool b) ∧ w' = w) (w : World) :
    Calls Tryz.prog 11 #[.int .i64 k, .int .i64 m] w fun e w' => e = .returned (.bool b) ∧ Below w.heap.size w w' := by
  have HH := Lib.hid H
  have HA := Lib.hid A
  clear H A
  go_enter Tryz.func11, Tryz.ntmps11
  go_wp2_with fail
  refine (value_kind k X HH.out _).mono ?_
  rintro e w1 ⟨u, rfl, hx, b1⟩
  go_wp2_with fail
  refine (HA.out u _ hx).mono ?_
  rintro e w2 ⟨rfl, rfl⟩
  go_wp2
  go_ret
  exact ⟨rfl, b1⟩

theorem ref1 (m : Int) : refHas 1 m = picked m false false false false true true := by unfold refHas picked; simp
theorem has1 (m : Int) (w : World) : Calls Tryz.prog 11 #[.int .i64 1, .int .i64 m] w fun e w' => e = .returned (.bool (refHas 1 m)) ∧ Below w.heap.size w w' := by
  rw [ref1]
  exact has_of 1 m _ (fun u => ∃ v, u = .iface 87 v) (fun w => (kind1 w).mono fun e w' ⟨v, he, hb⟩ => ⟨_, he, ⟨v, rfl⟩, hb⟩) (fun u w ⟨v, hu⟩ => hu ▸ ans87 v m w) w
theorem ref2 (m : Int) : refHas 2 m = picked m false true false false true false := by unfold refHas picked; simp
theorem has2 (m : Int) (w : World) : Calls Tryz.prog 11 #[.int .i64 2, .int .i64 m] w fun e w' => e = .returned (.bool (refHas 2 m)) ∧ Below w.heap.size w w' := by
  rw [ref2]
  exact has_of 2 m _ (fun u => ∃ v, u = .iface 88 v) (fun w => (kind2 w).mono fun e w' ⟨v, he, hb⟩ => ⟨_, he, ⟨v, rfl⟩, hb⟩) (fun u w ⟨v, hu⟩ => hu ▸ ans88 v m w) w
theorem ref3 (m : Int) : refHas 3 m = picked m false false false false true true := by unfold refHas picked; simp
theorem has3 (m : Int) (w : World) : Calls Tryz.prog 11 #[.int .i64 3, .int .i64 m] w fun e w' => e = .returned (.bool (refHas 3 m)) ∧ Below w.heap.size w w' := by
  rw [ref3]
  exact has_of 3 m _ (fun u => ∃ v, u = .iface 90 v) (fun w => (kind3 w).mono fun e w' ⟨v, he, hb⟩ => ⟨_, he, ⟨v, rfl⟩, hb⟩) (fun u w ⟨v, hu⟩ => hu ▸ ans90 v m w) w
theorem ref4 (m : Int) : refHas 4 m = picked m true false false false true false := by unfold refHas picked; simp
theorem has4 (m : Int) (w : World) : Calls Tryz.prog 11 #[.int .i64 4, .int .i64 m] w fun e w' => e = .returned (.bool (refHas 4 m)) ∧ Below w.heap.size w w' := by
  rw [ref4]
  exact has_of 4 m _ (fun u => ∃ v, u = .iface 92 v) (fun w => (kind4 w).mono fun e w' ⟨v, he, hb⟩ => ⟨_, he, ⟨v, rfl⟩, hb⟩) (fun u w ⟨v, hu⟩ => hu ▸ ans92 v m w) w
theorem ref5 (m : Int) : refHas 5 m = picked m true true false false true false := by unfold refHas picked; simp
theorem has5 (m : Int) (w : World) : Calls Tryz.prog 11 #[.int .i64 5, .int .i64 m] w fun e w' => e = .returned (.bool (refHas 5 m)) ∧ Below w.heap.size w w' := by
  rw [ref5]
  exact has_of 5 m _ (fun u => ∃ v, u = .iface 93 v) (fun w => (kind5 w).mono fun e w' ⟨v, he, hb⟩ => ⟨_, he, ⟨v, rfl⟩, hb⟩) (fun u w ⟨v, hu⟩ => hu ▸ ans93 v m w) w
theorem ref6 (m : Int) : refHas 6 m = picked m false false false false false false := by unfold refHas picked; simp
theorem has6 (m : Int) (w : World) : Calls Tryz.prog 11 #[.int .i64 6, .int .i64 m] w fun e w' => e = .returned (.bool (refHas 6 m)) ∧ Below w.heap.size w w' := by
  rw [ref6]
  exact has_of 6 m _ (fun u => ∃ v, u = .iface 94 v) (fun w => (kind6 w).mono fun e w' ⟨v, he, hb⟩ => ⟨_, he, ⟨v, rfl⟩, hb⟩) (fun u w ⟨v, hu⟩ => hu ▸ ans94 v m w) w
theorem ref7 (m : Int) : refHas 7 m = picked m true false false false false false := by unfold refHas picked; simp
theorem has7 (m : Int) (w : World) : Calls Tryz.prog 11 #[.int .i64 7, .int .i64 m] w fun e w' => e = .returned (.bool (refHas 7 m)) ∧ Below w.heap.size w w' := by
  rw [ref7]
  exact has_of 7 m _ (fun u => ∃ v, u = .iface 95 v) (fun w => (kind7 w).mono fun e w' ⟨v, he, hb⟩ => ⟨_, he, ⟨v, rfl⟩, hb⟩) (fun u w ⟨v, hu⟩ => hu ▸ ans95 v m w) w
theorem ref8 (m : Int) : refHas 8 m = picked m true false false false false false := by unfold refHas picked; simp
theorem has8 (m : Int) (w : World) : Calls Tryz.prog 11 #[.int .i64 8, .int .i64 m] w fun e w' => e = .returned (.bool (refHas 8 m)) ∧ Below w.heap.size w w' := by
  rw [ref8]
  exact has_of 8 m _ (fun u => ∃ v, u = .iface 97 v) (fun w => (kind8 w).mono fun e w' ⟨v, he, hb⟩ => ⟨_, he, ⟨v, rfl⟩, hb⟩) (fun u w ⟨v, hu⟩ => hu ▸ ans97 v m w) w
theorem ref9 (m : Int) : refHas 9 m = picked m true false false false false false := by unfold refHas picked; simp
theorem has9 (m : Int) (w : World) : Calls Tryz.prog 11 #[.int .i64 9, .int .i64 m] w fun e w' => e = .returned (.bool (refHas 9 m)) ∧ Below w.heap.size w w' := by
  rw [ref9]
  exact has_of 9 m _ (fun u => ∃ v, u = .iface 101 v) (fun w => (kind9 w).mono fun e w' ⟨v, he, hb⟩ => ⟨_, he, ⟨v, rfl⟩, hb⟩) (fun u w ⟨v, hu⟩ => hu ▸ ans101 v m w) w
theorem ref10 (m : Int) : refHas 10 m = picked m false true true false false false := by unfold refHas picked; simp
theorem has10 (m : Int) (w : World) : Calls Tryz.prog 11 #[.int .i64 10, .int .i64 m] w fun e w' => e = .returned (.bool (refHas 10 m)) ∧ Below w.heap.size w w' := by
  rw [ref10]
  exact has_of 10 m _ (fun u => ∃ v, u = .iface 103 v) (fun w => (kind10 w).mono fun e w' ⟨v, he, hb⟩ => ⟨_, he, ⟨v, rfl⟩, hb⟩) (fun u w ⟨v, hu⟩ => hu ▸ ans103 v m w) w
theorem ref11 (m : Int) : refHas 11 m = picked m true false true true false false := by unfold refHas picked; simp
theorem has11 (m : Int) (w : World) : Calls Tryz.prog 11 #[.int .i64 11, .int .i64 m] w fun e w' => e = .returned (.bool (refHas 11 m)) ∧ Below w.heap.size w w' := by
  rw [ref11]
  exact has_of 11 m _ (fun u => ∃ v, u = .iface 104 v) (fun w => (kind11 w).mono fun e w' ⟨v, he, hb⟩ => ⟨_, he, ⟨v, rfl⟩, hb⟩) (fun u w ⟨v, hu⟩ => hu ▸ ans104 v m w) w
theorem ref12 (m : Int) : refHas 12 m = picked m true false true true false false := by unfold refHas picked; simp
theorem has12 (m : Int) (w : World) : Calls Tryz.prog 11 #[.int .i64 12, .int .i64 m] w fun e w' => e = .returned (.bool (refHas 12 m)) ∧ Below w.heap.size w w' := by
  rw [ref12]
  exact has_of 12 m _ (fun u => ∃ v, u = .iface 104 v) (fun w => (kind12 w).mono fun e w' ⟨v, he, hb⟩ => ⟨_, he, ⟨v, rfl⟩, hb⟩) (fun u w ⟨v, hu⟩ => hu ▸ ans104 v m w) w
theorem ref13 (m : Int) : refHas 13 m = picked m false false false false false false := by unfold refHas picked; simp
theorem has13 (m : Int) (w : World) : Calls Tryz.prog 11 #[.int .i64 13, .int .i64 m] w fun e w' => e = .returned (.bool (refHas 13 m)) ∧ Below w.heap.size w w' := by
  rw [ref13]
  exact has_of 13 m _ (fun u => ∃ v, u = .iface 107 v) (fun w => (kind13 w).mono fun e w' ⟨v, he, hb⟩ => ⟨_, he, ⟨v, rfl⟩, hb⟩) (fun u w ⟨v, hu⟩ => hu ▸ ans107 v m w) w
theorem hasNo (k m : Int) (w : World) (h : k < 1 ∨ 13 < k) : Calls Tryz.prog 11 #[.int .i64 k, .int .i64 m] w fun e w' => e = .returned (.bool (refHas k m)) ∧ Below w.heap.size w w' := by
  have e : refHas k m = false := by
    have n1 : k ≠ 1 := by omega
    have n2 : k ≠ 2 := by omega
    have n3 : k ≠ 3 := by omega
    have n4 : k ≠ 4 := by omega
    have n5 : k ≠ 5 := by omega
    have n7 : k ≠ 7 := by omega
    have n8 : k ≠ 8 := by omega
    have n9 : k ≠ 9 := by omega
    have n10 : k ≠ 10 := by omega
    have n11 : k ≠ 11 := by omega
    have n12 : k ≠ 12 := by omega
    unfold refHas
    simp [n1, n2, n3, n4, n5, n7, n8, n9, n10, n11, n12]
  rw [e]
  exact has_of k m false (fun u => u = .nilIface) (fun w => (kindNo k w h).mono fun e w' ⟨he, hb⟩ => ⟨_, he, rfl, hb⟩) (fun u w hu => hu ▸ ansNil m w) w
theorem has_any (k m : Int) (w : World) : Calls Tryz.prog 11 #[.int .i64 k, .int .i64 m] w fun e w' => e = .returned (.bool (refHas k m)) ∧ Below w.heap.size w w' := by
  by_cases h : k < 1 ∨ 13 < k
  · exact hasNo k m w h
  have hk : k = 1 ∨ k = 2 ∨ k = 3 ∨ k = 4 ∨ k = 5 ∨ k = 6 ∨ k = 7 ∨ k = 8 ∨ k = 9 ∨ k = 10 ∨ k = 11 ∨ k = 12 ∨ k = 13 := by omega
  rcases hk with rfl | rfl | rfl | rfl | rfl | rfl | rfl | rfl | rfl | rfl | rfl | rfl | rfl
  · exact has1 m w
  · exact has2 m w
  · exact has3 m w
  · exact has4 m w
  · exact has5 m w
  · exact has6 m w
  · exact has7 m w
  · exact has8 m w
  · exact has9 m w
  · exact has10 m w
  · exact has11 m w
  · exact has12 m w
  · exact has13 m w

end Go.Proofs.YtoagofdmbapfeabGreatDoor
