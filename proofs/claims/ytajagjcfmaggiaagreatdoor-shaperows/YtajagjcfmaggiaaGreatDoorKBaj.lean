/- Each type's question in the form that panics: the value itself, where it has the type, else the panic; no condition. -/
import Derived.Test.YtajagjcfmaggiaaGreatDoorKBai
import Derived.Test.YtajagjcfmaggiaaGreatDoorKBah
import Derived.Test.YtajagjcfmaggiaaGreatDoorKBaf
namespace Go.Proofs.YtajagjcfmaggiaaGreatDoor
open Go.RowKit

theorem tkd_no {k : Int} (h : k < 1 ∨ 13 < k) (m : Int) : tkd m k = false := by
  unfold tkd
  by_cases hm : 1 ≤ m ∧ m ≤ 13
  · have h1 : (k == m) = false := by simp; omega
    have h2 : (k == 12) = false := by simp; omega
    rw [h1, h2]; simp
  · rw [decide_eq_false hm]; rfl

set_option maxRecDepth 100000 in
set_option maxHeartbeats 1000000 in
theorem tno1 (u : Value) (w : World) (o : Obj) (h : ∀ w : World, (Instr.typeAssert u 20 140 false).run Tryz.prog w = .halt (.panic (.iface 15 (.pointer (some ⟨w.heap.size, 0, none⟩)))) (w.alloc o)) : Calls Tryz.prog 162 #[.agg #[], u] w fun e w' => Pan w w' e := by
  go_enter Tryz.func162, Tryz.ntmps162
  go_wp2
  exact ⟨rfl, _, rfl, below2 w _ _⟩
set_option maxRecDepth 100000 in
set_option maxHeartbeats 1000000 in
theorem tyes1 (z : Value) (w : World) : Calls Tryz.prog 162 #[.agg #[], .iface 140 (z)] w fun e w' => e = .returned (.iface 140 (z)) ∧ Below w.heap.size w w' := by
  have h : ∀ w : World, (Instr.typeAssert (.iface 140 (z)) 20 140 false).run Tryz.prog w = .ok (z) w := fun w => must_is Tryz.underlying140 (fun m h => by cases h) w
  go_enter Tryz.func162, Tryz.ntmps162
  go_wp2
  go_ret
  exact ⟨rfl, below1 w _⟩
theorem tmu1 : Musts 162 (tkd 1) := by
  intro k u w hk
  rcases hk.cases with ⟨h0, rfl⟩ | ⟨rfl, a, rfl⟩ | ⟨rfl, a, rfl⟩ | ⟨rfl, a, rfl⟩ | ⟨rfl, a, rfl⟩ | ⟨rfl, a, rfl⟩ | ⟨rfl, a, rfl⟩ | ⟨rfl, a, rfl⟩ | ⟨rfl, a, rfl⟩ | ⟨rfl, a, b, rfl, ha, hb⟩ | ⟨rfl, c, a, rfl⟩ | ⟨rfl, a, rfl⟩ | ⟨rfl, rfl⟩ | ⟨rfl, rfl⟩
  · obtain ⟨o, ho⟩ := must_nil (x := 20) Tryz.underlying140
    exact Musts.no (tkd_no h0 1) (tno1 _ w o ho)
  · exact Musts.yes (by decide) (tyes1 _ w)
  · obtain ⟨o, ho⟩ := must_ty (t := 141) (x := 20) (v := _) Tryz.underlying140 (fun m h => by cases h) (by decide)
    exact Musts.no (by decide) (tno1 _ w o ho)
  · obtain ⟨o, ho⟩ := must_ty (t := 142) (x := 20) (v := _) Tryz.underlying140 (fun m h => by cases h) (by decide)
    exact Musts.no (by decide) (tno1 _ w o ho)
  · obtain ⟨o, ho⟩ := must_ty (t := 101) (x := 20) (v := _) Tryz.underlying140 (fun m h => by cases h) (by decide)
    exact Musts.no (by decide) (tno1 _ w o ho)
  · obtain ⟨o, ho⟩ := must_ty (t := 143) (x := 20) (v := _) Tryz.underlying140 (fun m h => by cases h) (by decide)
    exact Musts.no (by decide) (tno1 _ w o ho)
  · obtain ⟨o, ho⟩ := must_ty (t := 144) (x := 20) (v := _) Tryz.underlying140 (fun m h => by cases h) (by decide)
    exact Musts.no (by decide) (tno1 _ w o ho)
  · obtain ⟨o, ho⟩ := must_ty (t := 147) (x := 20) (v := _) Tryz.underlying140 (fun m h => by cases h) (by decide)
    exact Musts.no (by decide) (tno1 _ w o ho)
  · obtain ⟨o, ho⟩ := must_ty (t := 149) (x := 20) (v := _) Tryz.underlying140 (fun m h => by cases h) (by decide)
    exact Musts.no (by decide) (tno1 _ w o ho)
  · obtain ⟨o, ho⟩ := must_ty (t := 152) (x := 20) (v := _) Tryz.underlying140 (fun m h => by cases h) (by decide)
    exact Musts.no (by decide) (tno1 _ w o ho)
  · obtain ⟨o, ho⟩ := must_ty (t := 154) (x := 20) (v := _) Tryz.underlying140 (fun m h => by cases h) (by decide)
    exact Musts.no (by decide) (tno1 _ w o ho)
  · obtain ⟨o, ho⟩ := must_ty (t := 155) (x := 20) (v := _) Tryz.underlying140 (fun m h => by cases h) (by decide)
    exact Musts.no (by decide) (tno1 _ w o ho)
  · obtain ⟨o, ho⟩ := must_ty (t := 155) (x := 20) (v := _) Tryz.underlying140 (fun m h => by cases h) (by decide)
    exact Musts.no (by decide) (tno1 _ w o ho)
  · obtain ⟨o, ho⟩ := must_ty (t := 157) (x := 20) (v := _) Tryz.underlying140 (fun m h => by cases h) (by decide)
    exact Musts.no (by decide) (tno1 _ w o ho)

set_option maxRecDepth 100000 in
set_option maxHeartbeats 1000000 in
theorem tno2 (u : Value) (w : World) (o : Obj) (h : ∀ w : World, (Instr.typeAssert u 20 141 false).run Tryz.prog w = .halt (.panic (.iface 15 (.pointer (some ⟨w.heap.size, 0, none⟩)))) (w.alloc o)) : Calls Tryz.prog 164 #[.agg #[], u] w fun e w' => Pan w w' e := by
  go_enter Tryz.func164, Tryz.ntmps164
  go_wp2
  exact ⟨rfl, _, rfl, below2 w _ _⟩
set_option maxRecDepth 100000 in
set_option maxHeartbeats 1000000 in
theorem tyes2 (z : Value) (w : World) : Calls Tryz.prog 164 #[.agg #[], .iface 141 (z)] w fun e w' => e = .returned (.iface 141 (z)) ∧ Below w.heap.size w w' := by
  have h : ∀ w : World, (Instr.typeAssert (.iface 141 (z)) 20 141 false).run Tryz.prog w = .ok (z) w := fun w => must_is Tryz.underlying141 (fun m h => by cases h) w
  go_enter Tryz.func164, Tryz.ntmps164
  go_wp2
  go_ret
  exact ⟨rfl, below1 w _⟩
theorem tmu2 : Musts 164 (tkd 2) := by
  intro k u w hk
  rcases hk.cases with ⟨h0, rfl⟩ | ⟨rfl, a, rfl⟩ | ⟨rfl, a, rfl⟩ | ⟨rfl, a, rfl⟩ | ⟨rfl, a, rfl⟩ | ⟨rfl, a, rfl⟩ | ⟨rfl, a, rfl⟩ | ⟨rfl, a, rfl⟩ | ⟨rfl, a, rfl⟩ | ⟨rfl, a, b, rfl, ha, hb⟩ | ⟨rfl, c, a, rfl⟩ | ⟨rfl, a, rfl⟩ | ⟨rfl, rfl⟩ | ⟨rfl, rfl⟩
  · obtain ⟨o, ho⟩ := must_nil (x := 20) Tryz.underlying141
    exact Musts.no (tkd_no h0 2) (tno2 _ w o ho)
  · obtain ⟨o, ho⟩ := must_ty (t := 140) (x := 20) (v := _) Tryz.underlying141 (fun m h => by cases h) (by decide)
    exact Musts.no (by decide) (tno2 _ w o ho)
  · exact Musts.yes (by decide) (tyes2 _ w)
  · obtain ⟨o, ho⟩ := must_ty (t := 142) (x := 20) (v := _) Tryz.underlying141 (fun m h => by cases h) (by decide)
    exact Musts.no (by decide) (tno2 _ w o ho)
  · obtain ⟨o, ho⟩ := must_ty (t := 101) (x := 20) (v := _) Tryz.underlying141 (fun m h => by cases h) (by decide)
    exact Musts.no (by decide) (tno2 _ w o ho)
  · obtain ⟨o, ho⟩ := must_ty (t := 143) (x := 20) (v := _) Tryz.underlying141 (fun m h => by cases h) (by decide)
    exact Musts.no (by decide) (tno2 _ w o ho)
  · obtain ⟨o, ho⟩ := must_ty (t := 144) (x := 20) (v := _) Tryz.underlying141 (fun m h => by cases h) (by decide)
    exact Musts.no (by decide) (tno2 _ w o ho)
  · obtain ⟨o, ho⟩ := must_ty (t := 147) (x := 20) (v := _) Tryz.underlying141 (fun m h => by cases h) (by decide)
    exact Musts.no (by decide) (tno2 _ w o ho)
  · obtain ⟨o, ho⟩ := must_ty (t := 149) (x := 20) (v := _) Tryz.underlying141 (fun m h => by cases h) (by decide)
    exact Musts.no (by decide) (tno2 _ w o ho)
  · obtain ⟨o, ho⟩ := must_ty (t := 152) (x := 20) (v := _) Tryz.underlying141 (fun m h => by cases h) (by decide)
    exact Musts.no (by decide) (tno2 _ w o ho)
  · obtain ⟨o, ho⟩ := must_ty (t := 154) (x := 20) (v := _) Tryz.underlying141 (fun m h => by cases h) (by decide)
    exact Musts.no (by decide) (tno2 _ w o ho)
  · obtain ⟨o, ho⟩ := must_ty (t := 155) (x := 20) (v := _) Tryz.underlying141 (fun m h => by cases h) (by decide)
    exact Musts.no (by decide) (tno2 _ w o ho)
  · obtain ⟨o, ho⟩ := must_ty (t := 155) (x := 20) (v := _) Tryz.underlying141 (fun m h => by cases h) (by decide)
    exact Musts.no (by decide) (tno2 _ w o ho)
  · obtain ⟨o, ho⟩ := must_ty (t := 157) (x := 20) (v := _) Tryz.underlying141 (fun m h => by cases h) (by decide)
    exact Musts.no (by decide) (tno2 _ w o ho)

set_option maxRecDepth 100000 in
set_option maxHeartbeats 1000000 in
theorem tno3 (u : Value) (w : World) (o : Obj) (h : ∀ w : World, (Instr.typeAssert u 20 142 false).run Tryz.prog w = .halt (.panic (.iface 15 (.pointer (some ⟨w.heap.size, 0, none⟩)))) (w.alloc o)) : Calls Tryz.prog 166 #[.agg #[], u] w fun e w' => Pan w w' e := by
  go_enter Tryz.func166, Tryz.ntmps166
  go_wp2
  exact ⟨rfl, _, rfl, below2 w _ _⟩
set_option maxRecDepth 100000 in
set_option maxHeartbeats 1000000 in
theorem tyes3 (z : Value) (w : World) : Calls Tryz.prog 166 #[.agg #[], .iface 142 (z)] w fun e w' => e = .returned (.iface 142 (z)) ∧ Below w.heap.size w w' := by
  have h : ∀ w : World, (Instr.typeAssert (.iface 142 (z)) 20 142 false).run Tryz.prog w = .ok (z) w := fun w => must_is Tryz.underlying142 (fun m h => by cases h) w
  go_enter Tryz.func166, Tryz.ntmps166
  go_wp2
  go_ret
  exact ⟨rfl, below1 w _⟩
theorem tmu3 : Musts 166 (tkd 3) := by
  intro k u w hk
  rcases hk.cases with ⟨h0, rfl⟩ | ⟨rfl, a, rfl⟩ | ⟨rfl, a, rfl⟩ | ⟨rfl, a, rfl⟩ | ⟨rfl, a, rfl⟩ | ⟨rfl, a, rfl⟩ | ⟨rfl, a, rfl⟩ | ⟨rfl, a, rfl⟩ | ⟨rfl, a, rfl⟩ | ⟨rfl, a, b, rfl, ha, hb⟩ | ⟨rfl, c, a, rfl⟩ | ⟨rfl, a, rfl⟩ | ⟨rfl, rfl⟩ | ⟨rfl, rfl⟩
  · obtain ⟨o, ho⟩ := must_nil (x := 20) Tryz.underlying142
    exact Musts.no (tkd_no h0 3) (tno3 _ w o ho)
  · obtain ⟨o, ho⟩ := must_ty (t := 140) (x := 20) (v := _) Tryz.underlying142 (fun m h => by cases h) (by decide)
    exact Musts.no (by decide) (tno3 _ w o ho)
  · obtain ⟨o, ho⟩ := must_ty (t := 141) (x := 20) (v := _) Tryz.underlying142 (fun m h => by cases h) (by decide)
    exact Musts.no (by decide) (tno3 _ w o ho)
  · exact Musts.yes (by decide) (tyes3 _ w)
  · obtain ⟨o, ho⟩ := must_ty (t := 101) (x := 20) (v := _) Tryz.underlying142 (fun m h => by cases h) (by decide)
    exact Musts.no (by decide) (tno3 _ w o ho)
  · obtain ⟨o, ho⟩ := must_ty (t := 143) (x := 20) (v := _) Tryz.underlying142 (fun m h => by cases h) (by decide)
    exact Musts.no (by decide) (tno3 _ w o ho)
  · obtain ⟨o, ho⟩ := must_ty (t := 144) (x := 20) (v := _) Tryz.underlying142 (fun m h => by cases h) (by decide)
    exact Musts.no (by decide) (tno3 _ w o ho)
  · obtain ⟨o, ho⟩ := must_ty (t := 147) (x := 20) (v := _) Tryz.underlying142 (fun m h => by cases h) (by decide)
    exact Musts.no (by decide) (tno3 _ w o ho)
  · obtain ⟨o, ho⟩ := must_ty (t := 149) (x := 20) (v := _) Tryz.underlying142 (fun m h => by cases h) (by decide)
    exact Musts.no (by decide) (tno3 _ w o ho)
  · obtain ⟨o, ho⟩ := must_ty (t := 152) (x := 20) (v := _) Tryz.underlying142 (fun m h => by cases h) (by decide)
    exact Musts.no (by decide) (tno3 _ w o ho)
  · obtain ⟨o, ho⟩ := must_ty (t := 154) (x := 20) (v := _) Tryz.underlying142 (fun m h => by cases h) (by decide)
    exact Musts.no (by decide) (tno3 _ w o ho)
  · obtain ⟨o, ho⟩ := must_ty (t := 155) (x := 20) (v := _) Tryz.underlying142 (fun m h => by cases h) (by decide)
    exact Musts.no (by decide) (tno3 _ w o ho)
  · obtain ⟨o, ho⟩ := must_ty (t := 155) (x := 20) (v := _) Tryz.underlying142 (fun m h => by cases h) (by decide)
    exact Musts.no (by decide) (tno3 _ w o ho)
  · obtain ⟨o, ho⟩ := must_ty (t := 157) (x := 20) (v := _) Tryz.underlying142 (fun m h => by cases h) (by decide)
    exact Musts.no (by decide) (tno3 _ w o ho)

set_option maxRecDepth 100000 in
set_option maxHeartbeats 1000000 in
theorem tno4 (u : Value) (w : World) (o : Obj) (h : ∀ w : World, (Instr.typeAssert u 20 101 false).run Tryz.prog w = .halt (.panic (.iface 15 (.pointer (some ⟨w.heap.size, 0, none⟩)))) (w.alloc o)) : Calls Tryz.prog 168 #[.agg #[], u] w fun e w' => Pan w w' e := by
  go_enter Tryz.func168, Tryz.ntmps168
  go_wp2
  exact ⟨rfl, _, rfl, below2 w _ _⟩
set_option maxRecDepth 100000 in
set_option maxHeartbeats 1000000 in
theorem tyes4 (z : Value) (w : World) : Calls Tryz.prog 168 #[.agg #[], .iface 101 (z)] w fun e w' => e = .returned (.iface 101 (z)) ∧ Below w.heap.size w w' := by
  have h : ∀ w : World, (Instr.typeAssert (.iface 101 (z)) 20 101 false).run Tryz.prog w = .ok (z) w := fun w => must_is Tryz.underlying101 (fun m h => by cases h) w
  go_enter Tryz.func168, Tryz.ntmps168
  go_wp2
  go_ret
  exact ⟨rfl, below1 w _⟩
theorem tmu4 : Musts 168 (tkd 4) := by
  intro k u w hk
  rcases hk.cases with ⟨h0, rfl⟩ | ⟨rfl, a, rfl⟩ | ⟨rfl, a, rfl⟩ | ⟨rfl, a, rfl⟩ | ⟨rfl, a, rfl⟩ | ⟨rfl, a, rfl⟩ | ⟨rfl, a, rfl⟩ | ⟨rfl, a, rfl⟩ | ⟨rfl, a, rfl⟩ | ⟨rfl, a, b, rfl, ha, hb⟩ | ⟨rfl, c, a, rfl⟩ | ⟨rfl, a, rfl⟩ | ⟨rfl, rfl⟩ | ⟨rfl, rfl⟩
  · obtain ⟨o, ho⟩ := must_nil (x := 20) Tryz.underlying101
    exact Musts.no (tkd_no h0 4) (tno4 _ w o ho)
  · obtain ⟨o, ho⟩ := must_ty (t := 140) (x := 20) (v := _) Tryz.underlying101 (fun m h => by cases h) (by decide)
    exact Musts.no (by decide) (tno4 _ w o ho)
  · obtain ⟨o, ho⟩ := must_ty (t := 141) (x := 20) (v := _) Tryz.underlying101 (fun m h => by cases h) (by decide)
    exact Musts.no (by decide) (tno4 _ w o ho)
  · obtain ⟨o, ho⟩ := must_ty (t := 142) (x := 20) (v := _) Tryz.underlying101 (fun m h => by cases h) (by decide)
    exact Musts.no (by decide) (tno4 _ w o ho)
  · exact Musts.yes (by decide) (tyes4 _ w)
  · obtain ⟨o, ho⟩ := must_ty (t := 143) (x := 20) (v := _) Tryz.underlying101 (fun m h => by cases h) (by decide)
    exact Musts.no (by decide) (tno4 _ w o ho)
  · obtain ⟨o, ho⟩ := must_ty (t := 144) (x := 20) (v := _) Tryz.underlying101 (fun m h => by cases h) (by decide)
    exact Musts.no (by decide) (tno4 _ w o ho)
  · obtain ⟨o, ho⟩ := must_ty (t := 147) (x := 20) (v := _) Tryz.underlying101 (fun m h => by cases h) (by decide)
    exact Musts.no (by decide) (tno4 _ w o ho)
  · obtain ⟨o, ho⟩ := must_ty (t := 149) (x := 20) (v := _) Tryz.underlying101 (fun m h => by cases h) (by decide)
    exact Musts.no (by decide) (tno4 _ w o ho)
  · obtain ⟨o, ho⟩ := must_ty (t := 152) (x := 20) (v := _) Tryz.underlying101 (fun m h => by cases h) (by decide)
    exact Musts.no (by decide) (tno4 _ w o ho)
  · obtain ⟨o, ho⟩ := must_ty (t := 154) (x := 20) (v := _) Tryz.underlying101 (fun m h => by cases h) (by decide)
    exact Musts.no (by decide) (tno4 _ w o ho)
  · obtain ⟨o, ho⟩ := must_ty (t := 155) (x := 20) (v := _) Tryz.underlying101 (fun m h => by cases h) (by decide)
    exact Musts.no (by decide) (tno4 _ w o ho)
  · obtain ⟨o, ho⟩ := must_ty (t := 155) (x := 20) (v := _) Tryz.underlying101 (fun m h => by cases h) (by decide)
    exact Musts.no (by decide) (tno4 _ w o ho)
  · obtain ⟨o, ho⟩ := must_ty (t := 157) (x := 20) (v := _) Tryz.underlying101 (fun m h => by cases h) (by decide)
    exact Musts.no (by decide) (tno4 _ w o ho)

set_option maxRecDepth 100000 in
set_option maxHeartbeats 1000000 in
theorem tno5 (u : Value) (w : World) (o : Obj) (h : ∀ w : World, (Instr.typeAssert u 20 143 false).run Tryz.prog w = .halt (.panic (.iface 15 (.pointer (some ⟨w.heap.size, 0, none⟩)))) (w.alloc o)) : Calls Tryz.prog 170 #[.agg #[], u] w fun e w' => Pan w w' e := by
  go_enter Tryz.func170, Tryz.ntmps170
  go_wp2
  exact ⟨rfl, _, rfl, below2 w _ _⟩
set_option maxRecDepth 100000 in
set_option maxHeartbeats 1000000 in
theorem tyes5 (z : Value) (w : World) : Calls Tryz.prog 170 #[.agg #[], .iface 143 (z)] w fun e w' => e = .returned (.iface 143 (z)) ∧ Below w.heap.size w w' := by
  have h : ∀ w : World, (Instr.typeAssert (.iface 143 (z)) 20 143 false).run Tryz.prog w = .ok (z) w := fun w => must_is Tryz.underlying143 (fun m h => by cases h) w
  go_enter Tryz.func170, Tryz.ntmps170
  go_wp2
  go_ret
  exact ⟨rfl, below1 w _⟩
theorem tmu5 : Musts 170 (tkd 5) := by
  intro k u w hk
  rcases hk.cases with ⟨h0, rfl⟩ | ⟨rfl, a, rfl⟩ | ⟨rfl, a, rfl⟩ | ⟨rfl, a, rfl⟩ | ⟨rfl, a, rfl⟩ | ⟨rfl, a, rfl⟩ | ⟨rfl, a, rfl⟩ | ⟨rfl, a, rfl⟩ | ⟨rfl, a, rfl⟩ | ⟨rfl, a, b, rfl, ha, hb⟩ | ⟨rfl, c, a, rfl⟩ | ⟨rfl, a, rfl⟩ | ⟨rfl, rfl⟩ | ⟨rfl, rfl⟩
  · obtain ⟨o, ho⟩ := must_nil (x := 20) Tryz.underlying143
    exact Musts.no (tkd_no h0 5) (tno5 _ w o ho)
  · obtain ⟨o, ho⟩ := must_ty (t := 140) (x := 20) (v := _) Tryz.underlying143 (fun m h => by cases h) (by decide)
    exact Musts.no (by decide) (tno5 _ w o ho)
  · obtain ⟨o, ho⟩ := must_ty (t := 141) (x := 20) (v := _) Tryz.underlying143 (fun m h => by cases h) (by decide)
    exact Musts.no (by decide) (tno5 _ w o ho)
  · obtain ⟨o, ho⟩ := must_ty (t := 142) (x := 20) (v := _) Tryz.underlying143 (fun m h => by cases h) (by decide)
    exact Musts.no (by decide) (tno5 _ w o ho)
  · obtain ⟨o, ho⟩ := must_ty (t := 101) (x := 20) (v := _) Tryz.underlying143 (fun m h => by cases h) (by decide)
    exact Musts.no (by decide) (tno5 _ w o ho)
  · exact Musts.yes (by decide) (tyes5 _ w)
  · obtain ⟨o, ho⟩ := must_ty (t := 144) (x := 20) (v := _) Tryz.underlying143 (fun m h => by cases h) (by decide)
    exact Musts.no (by decide) (tno5 _ w o ho)
  · obtain ⟨o, ho⟩ := must_ty (t := 147) (x := 20) (v := _) Tryz.underlying143 (fun m h => by cases h) (by decide)
    exact Musts.no (by decide) (tno5 _ w o ho)
  · obtain ⟨o, ho⟩ := must_ty (t := 149) (x := 20) (v := _) Tryz.underlying143 (fun m h => by cases h) (by decide)
    exact Musts.no (by decide) (tno5 _ w o ho)
  · obtain ⟨o, ho⟩ := must_ty (t := 152) (x := 20) (v := _) Tryz.underlying143 (fun m h => by cases h) (by decide)
    exact Musts.no (by decide) (tno5 _ w o ho)
  · obtain ⟨o, ho⟩ := must_ty (t := 154) (x := 20) (v := _) Tryz.underlying143 (fun m h => by cases h) (by decide)
    exact Musts.no (by decide) (tno5 _ w o ho)
  · obtain ⟨o, ho⟩ := must_ty (t := 155) (x := 20) (v := _) Tryz.underlying143 (fun m h => by cases h) (by decide)
    exact Musts.no (by decide) (tno5 _ w o ho)
  · obtain ⟨o, ho⟩ := must_ty (t := 155) (x := 20) (v := _) Tryz.underlying143 (fun m h => by cases h) (by decide)
    exact Musts.no (by decide) (tno5 _ w o ho)
  · obtain ⟨o, ho⟩ := must_ty (t := 157) (x := 20) (v := _) Tryz.underlying143 (fun m h => by cases h) (by decide)
    exact Musts.no (by decide) (tno5 _ w o ho)

set_option maxRecDepth 100000 in
set_option maxHeartbeats 1000000 in
theorem tno6 (u : Value) (w : World) (o : Obj) (h : ∀ w : World, (Instr.typeAssert u 20 144 false).run Tryz.prog w = .halt (.panic (.iface 15 (.pointer (some ⟨w.heap.size, 0, none⟩)))) (w.alloc o)) : Calls Tryz.prog 172 #[.agg #[], u] w fun e w' => Pan w w' e := by
  go_enter Tryz.func172, Tryz.ntmps172
  go_wp2
  exact ⟨rfl, _, rfl, below2 w _ _⟩
set_option maxRecDepth 100000 in
set_option maxHeartbeats 1000000 in
theorem tyes6 (z : Value) (w : World) : Calls Tryz.prog 172 #[.agg #[], .iface 144 (z)] w fun e w' => e = .returned (.iface 144 (z)) ∧ Below w.heap.size w w' := by
  have h : ∀ w : World, (Instr.typeAssert (.iface 144 (z)) 20 144 false).run Tryz.prog w = .ok (z) w := fun w => must_is Tryz.underlying144 (fun m h => by cases h) w
  go_enter Tryz.func172, Tryz.ntmps172
  go_wp2
  go_ret
  exact ⟨rfl, below1 w _⟩
theorem tmu6 : Musts 172 (tkd 6) := by
  intro k u w hk
  rcases hk.cases with ⟨h0, rfl⟩ | ⟨rfl, a, rfl⟩ | ⟨rfl, a, rfl⟩ | ⟨rfl, a, rfl⟩ | ⟨rfl, a, rfl⟩ | ⟨rfl, a, rfl⟩ | ⟨rfl, a, rfl⟩ | ⟨rfl, a, rfl⟩ | ⟨rfl, a, rfl⟩ | ⟨rfl, a, b, rfl, ha, hb⟩ | ⟨rfl, c, a, rfl⟩ | ⟨rfl, a, rfl⟩ | ⟨rfl, rfl⟩ | ⟨rfl, rfl⟩
  · obtain ⟨o, ho⟩ := must_nil (x := 20) Tryz.underlying144
    exact Musts.no (tkd_no h0 6) (tno6 _ w o ho)
  · obtain ⟨o, ho⟩ := must_ty (t := 140) (x := 20) (v := _) Tryz.underlying144 (fun m h => by cases h) (by decide)
    exact Musts.no (by decide) (tno6 _ w o ho)
  · obtain ⟨o, ho⟩ := must_ty (t := 141) (x := 20) (v := _) Tryz.underlying144 (fun m h => by cases h) (by decide)
    exact Musts.no (by decide) (tno6 _ w o ho)
  · obtain ⟨o, ho⟩ := must_ty (t := 142) (x := 20) (v := _) Tryz.underlying144 (fun m h => by cases h) (by decide)
    exact Musts.no (by decide) (tno6 _ w o ho)
  · obtain ⟨o, ho⟩ := must_ty (t := 101) (x := 20) (v := _) Tryz.underlying144 (fun m h => by cases h) (by decide)
    exact Musts.no (by decide) (tno6 _ w o ho)
  · obtain ⟨o, ho⟩ := must_ty (t := 143) (x := 20) (v := _) Tryz.underlying144 (fun m h => by cases h) (by decide)
    exact Musts.no (by decide) (tno6 _ w o ho)
  · exact Musts.yes (by decide) (tyes6 _ w)
  · obtain ⟨o, ho⟩ := must_ty (t := 147) (x := 20) (v := _) Tryz.underlying144 (fun m h => by cases h) (by decide)
    exact Musts.no (by decide) (tno6 _ w o ho)
  · obtain ⟨o, ho⟩ := must_ty (t := 149) (x := 20) (v := _) Tryz.underlying144 (fun m h => by cases h) (by decide)
    exact Musts.no (by decide) (tno6 _ w o ho)
  · obtain ⟨o, ho⟩ := must_ty (t := 152) (x := 20) (v := _) Tryz.underlying144 (fun m h => by cases h) (by decide)
    exact Musts.no (by decide) (tno6 _ w o ho)
  · obtain ⟨o, ho⟩ := must_ty (t := 154) (x := 20) (v := _) Tryz.underlying144 (fun m h => by cases h) (by decide)
    exact Musts.no (by decide) (tno6 _ w o ho)
  · obtain ⟨o, ho⟩ := must_ty (t := 155) (x := 20) (v := _) Tryz.underlying144 (fun m h => by cases h) (by decide)
    exact Musts.no (by decide) (tno6 _ w o ho)
  · obtain ⟨o, ho⟩ := must_ty (t := 155) (x := 20) (v := _) Tryz.underlying144 (fun m h => by cases h) (by decide)
    exact Musts.no (by decide) (tno6 _ w o ho)
  · obtain ⟨o, ho⟩ := must_ty (t := 157) (x := 20) (v := _) Tryz.underlying144 (fun m h => by cases h) (by decide)
    exact Musts.no (by decide) (tno6 _ w o ho)

set_option maxRecDepth 100000 in
set_option maxHeartbeats 1000000 in
theorem tno7 (u : Value) (w : World) (o : Obj) (h : ∀ w : World, (Instr.typeAssert u 20 147 false).run Tryz.prog w = .halt (.panic (.iface 15 (.pointer (some ⟨w.heap.size, 0, none⟩)))) (w.alloc o)) : Calls Tryz.prog 174 #[.agg #[], u] w fun e w' => Pan w w' e := by
  go_enter Tryz.func174, Tryz.ntmps174
  go_wp2
  exact ⟨rfl, _, rfl, below2 w _ _⟩
set_option maxRecDepth 100000 in
set_option maxHeartbeats 1000000 in
theorem tyes7 (z : Value) (w : World) : Calls Tryz.prog 174 #[.agg #[], .iface 147 (z)] w fun e w' => e = .returned (.iface 147 (z)) ∧ Below w.heap.size w w' := by
  have h : ∀ w : World, (Instr.typeAssert (.iface 147 (z)) 20 147 false).run Tryz.prog w = .ok (z) w := fun w => must_is Tryz.underlying147 (fun m h => by cases h) w
  go_enter Tryz.func174, Tryz.ntmps174
  go_wp2
  go_ret
  exact ⟨rfl, below1 w _⟩
theorem tmu7 : Musts 174 (tkd 7) := by
  intro k u w hk
  rcases hk.cases with ⟨h0, rfl⟩ | ⟨rfl, a, rfl⟩ | ⟨rfl, a, rfl⟩ | ⟨rfl, a, rfl⟩ | ⟨rfl, a, rfl⟩ | ⟨rfl, a, rfl⟩ | ⟨rfl, a, rfl⟩ | ⟨rfl, a, rfl⟩ | ⟨rfl, a, rfl⟩ | ⟨rfl, a, b, rfl, ha, hb⟩ | ⟨rfl, c, a, rfl⟩ | ⟨rfl, a, rfl⟩ | ⟨rfl, rfl⟩ | ⟨rfl, rfl⟩
  · obtain ⟨o, ho⟩ := must_nil (x := 20) Tryz.underlying147
    exact Musts.no (tkd_no h0 7) (tno7 _ w o ho)
  · obtain ⟨o, ho⟩ := must_ty (t := 140) (x := 20) (v := _) Tryz.underlying147 (fun m h => by cases h) (by decide)
    exact Musts.no (by decide) (tno7 _ w o ho)
  · obtain ⟨o, ho⟩ := must_ty (t := 141) (x := 20) (v := _) Tryz.underlying147 (fun m h => by cases h) (by decide)
    exact Musts.no (by decide) (tno7 _ w o ho)
  · obtain ⟨o, ho⟩ := must_ty (t := 142) (x := 20) (v := _) Tryz.underlying147 (fun m h => by cases h) (by decide)
    exact Musts.no (by decide) (tno7 _ w o ho)
  · obtain ⟨o, ho⟩ := must_ty (t := 101) (x := 20) (v := _) Tryz.underlying147 (fun m h => by cases h) (by decide)
    exact Musts.no (by decide) (tno7 _ w o ho)
  · obtain ⟨o, ho⟩ := must_ty (t := 143) (x := 20) (v := _) Tryz.underlying147 (fun m h => by cases h) (by decide)
    exact Musts.no (by decide) (tno7 _ w o ho)
  · obtain ⟨o, ho⟩ := must_ty (t := 144) (x := 20) (v := _) Tryz.underlying147 (fun m h => by cases h) (by decide)
    exact Musts.no (by decide) (tno7 _ w o ho)
  · exact Musts.yes (by decide) (tyes7 _ w)
  · obtain ⟨o, ho⟩ := must_ty (t := 149) (x := 20) (v := _) Tryz.underlying147 (fun m h => by cases h) (by decide)
    exact Musts.no (by decide) (tno7 _ w o ho)
  · obtain ⟨o, ho⟩ := must_ty (t := 152) (x := 20) (v := _) Tryz.underlying147 (fun m h => by cases h) (by decide)
    exact Musts.no (by decide) (tno7 _ w o ho)
  · obtain ⟨o, ho⟩ := must_ty (t := 154) (x := 20) (v := _) Tryz.underlying147 (fun m h => by cases h) (by decide)
    exact Musts.no (by decide) (tno7 _ w o ho)
  · obtain ⟨o, ho⟩ := must_ty (t := 155) (x := 20) (v := _) Tryz.underlying147 (fun m h => by cases h) (by decide)
    exact Musts.no (by decide) (tno7 _ w o ho)
  · obtain ⟨o, ho⟩ := must_ty (t := 155) (x := 20) (v := _) Tryz.underlying147 (fun m h => by cases h) (by decide)
    exact Musts.no (by decide) (tno7 _ w o ho)
  · obtain ⟨o, ho⟩ := must_ty (t := 157) (x := 20) (v := _) Tryz.underlying147 (fun m h => by cases h) (by decide)
    exact Musts.no (by decide) (tno7 _ w o ho)

set_option maxRecDepth 100000 in
set_option maxHeartbeats 1000000 in
theorem tno8 (u : Value) (w : World) (o : Obj) (h : ∀ w : World, (Instr.typeAssert u 20 149 false).run Tryz.prog w = .halt (.panic (.iface 15 (.pointer (some ⟨w.heap.size, 0, none⟩)))) (w.alloc o)) : Calls Tryz.prog 176 #[.agg #[], u] w fun e w' => Pan w w' e := by
  go_enter Tryz.func176, Tryz.ntmps176
  go_wp2
  exact ⟨rfl, _, rfl, below2 w _ _⟩
set_option maxRecDepth 100000 in
set_option maxHeartbeats 1000000 in
theorem tyes8 (z : Value) (w : World) : Calls Tryz.prog 176 #[.agg #[], .iface 149 (z)] w fun e w' => e = .returned (.iface 149 (z)) ∧ Below w.heap.size w w' := by
  have h : ∀ w : World, (Instr.typeAssert (.iface 149 (z)) 20 149 false).run Tryz.prog w = .ok (z) w := fun w => must_is Tryz.underlying149 (fun m h => by cases h) w
  go_enter Tryz.func176, Tryz.ntmps176
  go_wp2
  go_ret
  exact ⟨rfl, below1 w _⟩
theorem tmu8 : Musts 176 (tkd 8) := by
  intro k u w hk
  rcases hk.cases with ⟨h0, rfl⟩ | ⟨rfl, a, rfl⟩ | ⟨rfl, a, rfl⟩ | ⟨rfl, a, rfl⟩ | ⟨rfl, a, rfl⟩ | ⟨rfl, a, rfl⟩ | ⟨rfl, a, rfl⟩ | ⟨rfl, a, rfl⟩ | ⟨rfl, a, rfl⟩ | ⟨rfl, a, b, rfl, ha, hb⟩ | ⟨rfl, c, a, rfl⟩ | ⟨rfl, a, rfl⟩ | ⟨rfl, rfl⟩ | ⟨rfl, rfl⟩
  · obtain ⟨o, ho⟩ := must_nil (x := 20) Tryz.underlying149
    exact Musts.no (tkd_no h0 8) (tno8 _ w o ho)
  · obtain ⟨o, ho⟩ := must_ty (t := 140) (x := 20) (v := _) Tryz.underlying149 (fun m h => by cases h) (by decide)
    exact Musts.no (by decide) (tno8 _ w o ho)
  · obtain ⟨o, ho⟩ := must_ty (t := 141) (x := 20) (v := _) Tryz.underlying149 (fun m h => by cases h) (by decide)
    exact Musts.no (by decide) (tno8 _ w o ho)
  · obtain ⟨o, ho⟩ := must_ty (t := 142) (x := 20) (v := _) Tryz.underlying149 (fun m h => by cases h) (by decide)
    exact Musts.no (by decide) (tno8 _ w o ho)
  · obtain ⟨o, ho⟩ := must_ty (t := 101) (x := 20) (v := _) Tryz.underlying149 (fun m h => by cases h) (by decide)
    exact Musts.no (by decide) (tno8 _ w o ho)
  · obtain ⟨o, ho⟩ := must_ty (t := 143) (x := 20) (v := _) Tryz.underlying149 (fun m h => by cases h) (by decide)
    exact Musts.no (by decide) (tno8 _ w o ho)
  · obtain ⟨o, ho⟩ := must_ty (t := 144) (x := 20) (v := _) Tryz.underlying149 (fun m h => by cases h) (by decide)
    exact Musts.no (by decide) (tno8 _ w o ho)
  · obtain ⟨o, ho⟩ := must_ty (t := 147) (x := 20) (v := _) Tryz.underlying149 (fun m h => by cases h) (by decide)
    exact Musts.no (by decide) (tno8 _ w o ho)
  · exact Musts.yes (by decide) (tyes8 _ w)
  · obtain ⟨o, ho⟩ := must_ty (t := 152) (x := 20) (v := _) Tryz.underlying149 (fun m h => by cases h) (by decide)
    exact Musts.no (by decide) (tno8 _ w o ho)
  · obtain ⟨o, ho⟩ := must_ty (t := 154) (x := 20) (v := _) Tryz.underlying149 (fun m h => by cases h) (by decide)
    exact Musts.no (by decide) (tno8 _ w o ho)
  · obtain ⟨o, ho⟩ := must_ty (t := 155) (x := 20) (v := _) Tryz.underlying149 (fun m h => by cases h) (by decide)
    exact Musts.no (by decide) (tno8 _ w o ho)
  · obtain ⟨o, ho⟩ := must_ty (t := 155) (x := 20) (v := _) Tryz.underlying149 (fun m h => by cases h) (by decide)
    exact Musts.no (by decide) (tno8 _ w o ho)
  · obtain ⟨o, ho⟩ := must_ty (t := 157) (x := 20) (v := _) Tryz.underlying149 (fun m h => by cases h) (by decide)
    exact Musts.no (by decide) (tno8 _ w o ho)

set_option maxRecDepth 100000 in
set_option maxHeartbeats 1000000 in
theorem tno9 (u : Value) (w : World) (o : Obj) (h : ∀ w : World, (Instr.typeAssert u 20 152 false).run Tryz.prog w = .halt (.panic (.iface 15 (.pointer (some ⟨w.heap.size, 0, none⟩)))) (w.alloc o)) : Calls Tryz.prog 178 #[.agg #[], u] w fun e w' => Pan w w' e := by
  go_enter Tryz.func178, Tryz.ntmps178
  go_wp2
  exact ⟨rfl, _, rfl, below2 w _ _⟩
set_option maxRecDepth 100000 in
set_option maxHeartbeats 1000000 in
theorem tyes9 (a b : Value) (w : World) : Calls Tryz.prog 178 #[.agg #[], .iface 152 (.agg #[a, b])] w fun e w' => e = .returned (.iface 152 (.agg #[a, b])) ∧ Below w.heap.size w w' := by
  have h : ∀ w : World, (Instr.typeAssert (.iface 152 (.agg #[a, b])) 20 152 false).run Tryz.prog w = .ok (.agg #[a, b]) w := fun w => must_is Tryz.underlying152 (fun m h => by cases h) w
  go_enter Tryz.func178, Tryz.ntmps178
  go_wp2
  go_ret
  exact ⟨rfl, below1 w _⟩
theorem tmu9 : Musts 178 (tkd 9) := by
  intro k u w hk
  rcases hk.cases with ⟨h0, rfl⟩ | ⟨rfl, a, rfl⟩ | ⟨rfl, a, rfl⟩ | ⟨rfl, a, rfl⟩ | ⟨rfl, a, rfl⟩ | ⟨rfl, a, rfl⟩ | ⟨rfl, a, rfl⟩ | ⟨rfl, a, rfl⟩ | ⟨rfl, a, rfl⟩ | ⟨rfl, a, b, rfl, ha, hb⟩ | ⟨rfl, c, a, rfl⟩ | ⟨rfl, a, rfl⟩ | ⟨rfl, rfl⟩ | ⟨rfl, rfl⟩
  · obtain ⟨o, ho⟩ := must_nil (x := 20) Tryz.underlying152
    exact Musts.no (tkd_no h0 9) (tno9 _ w o ho)
  · obtain ⟨o, ho⟩ := must_ty (t := 140) (x := 20) (v := _) Tryz.underlying152 (fun m h => by cases h) (by decide)
    exact Musts.no (by decide) (tno9 _ w o ho)
  · obtain ⟨o, ho⟩ := must_ty (t := 141) (x := 20) (v := _) Tryz.underlying152 (fun m h => by cases h) (by decide)
    exact Musts.no (by decide) (tno9 _ w o ho)
  · obtain ⟨o, ho⟩ := must_ty (t := 142) (x := 20) (v := _) Tryz.underlying152 (fun m h => by cases h) (by decide)
    exact Musts.no (by decide) (tno9 _ w o ho)
  · obtain ⟨o, ho⟩ := must_ty (t := 101) (x := 20) (v := _) Tryz.underlying152 (fun m h => by cases h) (by decide)
    exact Musts.no (by decide) (tno9 _ w o ho)
  · obtain ⟨o, ho⟩ := must_ty (t := 143) (x := 20) (v := _) Tryz.underlying152 (fun m h => by cases h) (by decide)
    exact Musts.no (by decide) (tno9 _ w o ho)
  · obtain ⟨o, ho⟩ := must_ty (t := 144) (x := 20) (v := _) Tryz.underlying152 (fun m h => by cases h) (by decide)
    exact Musts.no (by decide) (tno9 _ w o ho)
  · obtain ⟨o, ho⟩ := must_ty (t := 147) (x := 20) (v := _) Tryz.underlying152 (fun m h => by cases h) (by decide)
    exact Musts.no (by decide) (tno9 _ w o ho)
  · obtain ⟨o, ho⟩ := must_ty (t := 149) (x := 20) (v := _) Tryz.underlying152 (fun m h => by cases h) (by decide)
    exact Musts.no (by decide) (tno9 _ w o ho)
  · exact Musts.yes (by decide) (tyes9 a b w)
  · obtain ⟨o, ho⟩ := must_ty (t := 154) (x := 20) (v := _) Tryz.underlying152 (fun m h => by cases h) (by decide)
    exact Musts.no (by decide) (tno9 _ w o ho)
  · obtain ⟨o, ho⟩ := must_ty (t := 155) (x := 20) (v := _) Tryz.underlying152 (fun m h => by cases h) (by decide)
    exact Musts.no (by decide) (tno9 _ w o ho)
  · obtain ⟨o, ho⟩ := must_ty (t := 155) (x := 20) (v := _) Tryz.underlying152 (fun m h => by cases h) (by decide)
    exact Musts.no (by decide) (tno9 _ w o ho)
  · obtain ⟨o, ho⟩ := must_ty (t := 157) (x := 20) (v := _) Tryz.underlying152 (fun m h => by cases h) (by decide)
    exact Musts.no (by decide) (tno9 _ w o ho)

set_option maxRecDepth 100000 in
set_option maxHeartbeats 1000000 in
theorem tno10 (u : Value) (w : World) (o : Obj) (h : ∀ w : World, (Instr.typeAssert u 20 154 false).run Tryz.prog w = .halt (.panic (.iface 15 (.pointer (some ⟨w.heap.size, 0, none⟩)))) (w.alloc o)) : Calls Tryz.prog 180 #[.agg #[], u] w fun e w' => Pan w w' e := by
  go_enter Tryz.func180, Tryz.ntmps180
  go_wp2
  exact ⟨rfl, _, rfl, below2 w _ _⟩
set_option maxRecDepth 100000 in
set_option maxHeartbeats 1000000 in
theorem tyes10 (c : Int) (s : ByteArray) (w : World) : Calls Tryz.prog 180 #[.agg #[], .iface 154 (.agg #[.int .i64 c, .string s])] w fun e w' => e = .returned (.iface 154 (.agg #[.int .i64 c, .string s])) ∧ Below w.heap.size w w' := by
  have h : ∀ w : World, (Instr.typeAssert (.iface 154 (.agg #[.int .i64 c, .string s])) 20 154 false).run Tryz.prog w = .ok (.agg #[.int .i64 c, .string s]) w := fun w => must_is Tryz.underlying154 (fun m h => by cases h) w
  go_enter Tryz.func180, Tryz.ntmps180
  go_wp2
  go_ret
  exact ⟨rfl, below1 w _⟩
theorem tmu10 : Musts 180 (tkd 10) := by
  intro k u w hk
  rcases hk.cases with ⟨h0, rfl⟩ | ⟨rfl, a, rfl⟩ | ⟨rfl, a, rfl⟩ | ⟨rfl, a, rfl⟩ | ⟨rfl, a, rfl⟩ | ⟨rfl, a, rfl⟩ | ⟨rfl, a, rfl⟩ | ⟨rfl, a, rfl⟩ | ⟨rfl, a, rfl⟩ | ⟨rfl, a, b, rfl, ha, hb⟩ | ⟨rfl, c, a, rfl⟩ | ⟨rfl, a, rfl⟩ | ⟨rfl, rfl⟩ | ⟨rfl, rfl⟩
  · obtain ⟨o, ho⟩ := must_nil (x := 20) Tryz.underlying154
    exact Musts.no (tkd_no h0 10) (tno10 _ w o ho)
  · obtain ⟨o, ho⟩ := must_ty (t := 140) (x := 20) (v := _) Tryz.underlying154 (fun m h => by cases h) (by decide)
    exact Musts.no (by decide) (tno10 _ w o ho)
  · obtain ⟨o, ho⟩ := must_ty (t := 141) (x := 20) (v := _) Tryz.underlying154 (fun m h => by cases h) (by decide)
    exact Musts.no (by decide) (tno10 _ w o ho)
  · obtain ⟨o, ho⟩ := must_ty (t := 142) (x := 20) (v := _) Tryz.underlying154 (fun m h => by cases h) (by decide)
    exact Musts.no (by decide) (tno10 _ w o ho)
  · obtain ⟨o, ho⟩ := must_ty (t := 101) (x := 20) (v := _) Tryz.underlying154 (fun m h => by cases h) (by decide)
    exact Musts.no (by decide) (tno10 _ w o ho)
  · obtain ⟨o, ho⟩ := must_ty (t := 143) (x := 20) (v := _) Tryz.underlying154 (fun m h => by cases h) (by decide)
    exact Musts.no (by decide) (tno10 _ w o ho)
  · obtain ⟨o, ho⟩ := must_ty (t := 144) (x := 20) (v := _) Tryz.underlying154 (fun m h => by cases h) (by decide)
    exact Musts.no (by decide) (tno10 _ w o ho)
  · obtain ⟨o, ho⟩ := must_ty (t := 147) (x := 20) (v := _) Tryz.underlying154 (fun m h => by cases h) (by decide)
    exact Musts.no (by decide) (tno10 _ w o ho)
  · obtain ⟨o, ho⟩ := must_ty (t := 149) (x := 20) (v := _) Tryz.underlying154 (fun m h => by cases h) (by decide)
    exact Musts.no (by decide) (tno10 _ w o ho)
  · obtain ⟨o, ho⟩ := must_ty (t := 152) (x := 20) (v := _) Tryz.underlying154 (fun m h => by cases h) (by decide)
    exact Musts.no (by decide) (tno10 _ w o ho)
  · exact Musts.yes (by decide) (tyes10 c a w)
  · obtain ⟨o, ho⟩ := must_ty (t := 155) (x := 20) (v := _) Tryz.underlying154 (fun m h => by cases h) (by decide)
    exact Musts.no (by decide) (tno10 _ w o ho)
  · obtain ⟨o, ho⟩ := must_ty (t := 155) (x := 20) (v := _) Tryz.underlying154 (fun m h => by cases h) (by decide)
    exact Musts.no (by decide) (tno10 _ w o ho)
  · obtain ⟨o, ho⟩ := must_ty (t := 157) (x := 20) (v := _) Tryz.underlying154 (fun m h => by cases h) (by decide)
    exact Musts.no (by decide) (tno10 _ w o ho)

set_option maxRecDepth 100000 in
set_option maxHeartbeats 1000000 in
theorem tno11 (u : Value) (w : World) (o : Obj) (h : ∀ w : World, (Instr.typeAssert u 20 155 false).run Tryz.prog w = .halt (.panic (.iface 15 (.pointer (some ⟨w.heap.size, 0, none⟩)))) (w.alloc o)) : Calls Tryz.prog 182 #[.agg #[], u] w fun e w' => Pan w w' e := by
  go_enter Tryz.func182, Tryz.ntmps182
  go_wp2
  exact ⟨rfl, _, rfl, below2 w _ _⟩
set_option maxRecDepth 100000 in
set_option maxHeartbeats 1000000 in
theorem tyes11 (z : Value) (w : World) : Calls Tryz.prog 182 #[.agg #[], .iface 155 (z)] w fun e w' => e = .returned (.iface 155 (z)) ∧ Below w.heap.size w w' := by
  have h : ∀ w : World, (Instr.typeAssert (.iface 155 (z)) 20 155 false).run Tryz.prog w = .ok (z) w := fun w => must_is Tryz.underlying155 (fun m h => by cases h) w
  go_enter Tryz.func182, Tryz.ntmps182
  go_wp2
  go_ret
  exact ⟨rfl, below1 w _⟩
theorem tmu11 : Musts 182 (tkd 11) := by
  intro k u w hk
  rcases hk.cases with ⟨h0, rfl⟩ | ⟨rfl, a, rfl⟩ | ⟨rfl, a, rfl⟩ | ⟨rfl, a, rfl⟩ | ⟨rfl, a, rfl⟩ | ⟨rfl, a, rfl⟩ | ⟨rfl, a, rfl⟩ | ⟨rfl, a, rfl⟩ | ⟨rfl, a, rfl⟩ | ⟨rfl, a, b, rfl, ha, hb⟩ | ⟨rfl, c, a, rfl⟩ | ⟨rfl, a, rfl⟩ | ⟨rfl, rfl⟩ | ⟨rfl, rfl⟩
  · obtain ⟨o, ho⟩ := must_nil (x := 20) Tryz.underlying155
    exact Musts.no (tkd_no h0 11) (tno11 _ w o ho)
  · obtain ⟨o, ho⟩ := must_ty (t := 140) (x := 20) (v := _) Tryz.underlying155 (fun m h => by cases h) (by decide)
    exact Musts.no (by decide) (tno11 _ w o ho)
  · obtain ⟨o, ho⟩ := must_ty (t := 141) (x := 20) (v := _) Tryz.underlying155 (fun m h => by cases h) (by decide)
    exact Musts.no (by decide) (tno11 _ w o ho)
  · obtain ⟨o, ho⟩ := must_ty (t := 142) (x := 20) (v := _) Tryz.underlying155 (fun m h => by cases h) (by decide)
    exact Musts.no (by decide) (tno11 _ w o ho)
  · obtain ⟨o, ho⟩ := must_ty (t := 101) (x := 20) (v := _) Tryz.underlying155 (fun m h => by cases h) (by decide)
    exact Musts.no (by decide) (tno11 _ w o ho)
  · obtain ⟨o, ho⟩ := must_ty (t := 143) (x := 20) (v := _) Tryz.underlying155 (fun m h => by cases h) (by decide)
    exact Musts.no (by decide) (tno11 _ w o ho)
  · obtain ⟨o, ho⟩ := must_ty (t := 144) (x := 20) (v := _) Tryz.underlying155 (fun m h => by cases h) (by decide)
    exact Musts.no (by decide) (tno11 _ w o ho)
  · obtain ⟨o, ho⟩ := must_ty (t := 147) (x := 20) (v := _) Tryz.underlying155 (fun m h => by cases h) (by decide)
    exact Musts.no (by decide) (tno11 _ w o ho)
  · obtain ⟨o, ho⟩ := must_ty (t := 149) (x := 20) (v := _) Tryz.underlying155 (fun m h => by cases h) (by decide)
    exact Musts.no (by decide) (tno11 _ w o ho)
  · obtain ⟨o, ho⟩ := must_ty (t := 152) (x := 20) (v := _) Tryz.underlying155 (fun m h => by cases h) (by decide)
    exact Musts.no (by decide) (tno11 _ w o ho)
  · obtain ⟨o, ho⟩ := must_ty (t := 154) (x := 20) (v := _) Tryz.underlying155 (fun m h => by cases h) (by decide)
    exact Musts.no (by decide) (tno11 _ w o ho)
  · exact Musts.yes (by decide) (tyes11 _ w)
  · exact Musts.yes (by decide) (tyes11 _ w)
  · obtain ⟨o, ho⟩ := must_ty (t := 157) (x := 20) (v := _) Tryz.underlying155 (fun m h => by cases h) (by decide)
    exact Musts.no (by decide) (tno11 _ w o ho)

set_option maxRecDepth 100000 in
set_option maxHeartbeats 1000000 in
theorem tno13 (u : Value) (w : World) (o : Obj) (h : ∀ w : World, (Instr.typeAssert u 20 157 false).run Tryz.prog w = .halt (.panic (.iface 15 (.pointer (some ⟨w.heap.size, 0, none⟩)))) (w.alloc o)) : Calls Tryz.prog 187 #[.agg #[], u] w fun e w' => Pan w w' e := by
  go_enter Tryz.func187, Tryz.ntmps187
  go_wp2
  exact ⟨rfl, _, rfl, below2 w _ _⟩
set_option maxRecDepth 100000 in
set_option maxHeartbeats 1000000 in
theorem tyes13 (w : World) : Calls Tryz.prog 187 #[.agg #[], .iface 157 (.agg #[])] w fun e w' => e = .returned (.iface 157 (.agg #[])) ∧ Below w.heap.size w w' := by
  have h : ∀ w : World, (Instr.typeAssert (.iface 157 (.agg #[])) 20 157 false).run Tryz.prog w = .ok (.agg #[]) w := fun w => must_is Tryz.underlying157 (fun m h => by cases h) w
  go_enter Tryz.func187, Tryz.ntmps187
  go_wp2
  go_ret
  exact ⟨rfl, below1 w _⟩
theorem tmu13 : Musts 187 (tkd 13) := by
  intro k u w hk
  rcases hk.cases with ⟨h0, rfl⟩ | ⟨rfl, a, rfl⟩ | ⟨rfl, a, rfl⟩ | ⟨rfl, a, rfl⟩ | ⟨rfl, a, rfl⟩ | ⟨rfl, a, rfl⟩ | ⟨rfl, a, rfl⟩ | ⟨rfl, a, rfl⟩ | ⟨rfl, a, rfl⟩ | ⟨rfl, a, b, rfl, ha, hb⟩ | ⟨rfl, c, a, rfl⟩ | ⟨rfl, a, rfl⟩ | ⟨rfl, rfl⟩ | ⟨rfl, rfl⟩
  · obtain ⟨o, ho⟩ := must_nil (x := 20) Tryz.underlying157
    exact Musts.no (tkd_no h0 13) (tno13 _ w o ho)
  · obtain ⟨o, ho⟩ := must_ty (t := 140) (x := 20) (v := _) Tryz.underlying157 (fun m h => by cases h) (by decide)
    exact Musts.no (by decide) (tno13 _ w o ho)
  · obtain ⟨o, ho⟩ := must_ty (t := 141) (x := 20) (v := _) Tryz.underlying157 (fun m h => by cases h) (by decide)
    exact Musts.no (by decide) (tno13 _ w o ho)
  · obtain ⟨o, ho⟩ := must_ty (t := 142) (x := 20) (v := _) Tryz.underlying157 (fun m h => by cases h) (by decide)
    exact Musts.no (by decide) (tno13 _ w o ho)
  · obtain ⟨o, ho⟩ := must_ty (t := 101) (x := 20) (v := _) Tryz.underlying157 (fun m h => by cases h) (by decide)
    exact Musts.no (by decide) (tno13 _ w o ho)
  · obtain ⟨o, ho⟩ := must_ty (t := 143) (x := 20) (v := _) Tryz.underlying157 (fun m h => by cases h) (by decide)
    exact Musts.no (by decide) (tno13 _ w o ho)
  · obtain ⟨o, ho⟩ := must_ty (t := 144) (x := 20) (v := _) Tryz.underlying157 (fun m h => by cases h) (by decide)
    exact Musts.no (by decide) (tno13 _ w o ho)
  · obtain ⟨o, ho⟩ := must_ty (t := 147) (x := 20) (v := _) Tryz.underlying157 (fun m h => by cases h) (by decide)
    exact Musts.no (by decide) (tno13 _ w o ho)
  · obtain ⟨o, ho⟩ := must_ty (t := 149) (x := 20) (v := _) Tryz.underlying157 (fun m h => by cases h) (by decide)
    exact Musts.no (by decide) (tno13 _ w o ho)
  · obtain ⟨o, ho⟩ := must_ty (t := 152) (x := 20) (v := _) Tryz.underlying157 (fun m h => by cases h) (by decide)
    exact Musts.no (by decide) (tno13 _ w o ho)
  · obtain ⟨o, ho⟩ := must_ty (t := 154) (x := 20) (v := _) Tryz.underlying157 (fun m h => by cases h) (by decide)
    exact Musts.no (by decide) (tno13 _ w o ho)
  · obtain ⟨o, ho⟩ := must_ty (t := 155) (x := 20) (v := _) Tryz.underlying157 (fun m h => by cases h) (by decide)
    exact Musts.no (by decide) (tno13 _ w o ho)
  · obtain ⟨o, ho⟩ := must_ty (t := 155) (x := 20) (v := _) Tryz.underlying157 (fun m h => by cases h) (by decide)
    exact Musts.no (by decide) (tno13 _ w o ho)
  · exact Musts.yes (by decide) (tyes13  w)

set_option maxRecDepth 100000 in
set_option maxHeartbeats 1000000 in
theorem tmu12 : Musts 184 (tkd 12) := by
  intro k u w hk
  have HA : Hid (∀ w : World, Calls Tryz.prog 183 #[.agg #[], u] w fun e w' => e = .returned (.bool (k == 12)) ∧ Below w.heap.size w w') := fun w => type12_asks k u w hk
  have HN := Lib.hid (fun w => (fmuN k u w hk).2 rfl)
  have hp : tkd 12 k = (k == 12) := by unfold tkd; simp
  constructor
  · intro h
    rw [hp] at h
    rw [h] at HA
    go_enter Tryz.func184, Tryz.ntmps184
    go_wp2_with fail
    refine (HA.out _).mono ?_
    rintro e w1 ⟨rfl, b1⟩
    go_wp2
    go_ret
    exact ⟨rfl, (below1 w _).trans (b1.mono (by simp))⟩
  · intro h
    rw [hp] at h
    rw [h] at HA
    go_enter Tryz.func184, Tryz.ntmps184
    go_wp2_with fail
    refine (HA.out _).mono ?_
    rintro e w1 ⟨rfl, b1⟩
    go_wp2_with fail
    refine (HN.out _).mono ?_
    rintro e w2 ⟨a, rfl, b2⟩
    have B1 := (below1 w (.cells #[] 116)).trans (b1.mono (by simp))
    exact ⟨rfl, a, rfl, B1.trans (b2.mono B1.size)⟩

/-- Every type's question is asked, panicking, by some function. -/
theorem type_musts (m : Int) : ∃ F, MethM (qty m) F ∧ Musts F (tkd m) := by
  by_cases h : m < 1 ∨ 13 < m
  · have hq : qty m = 118 := by
      unfold qty
      rw [if_neg (show ¬ m = 1 by omega)]
      rw [if_neg (show ¬ m = 2 by omega)]
      rw [if_neg (show ¬ m = 3 by omega)]
      rw [if_neg (show ¬ m = 4 by omega)]
      rw [if_neg (show ¬ m = 5 by omega)]
      rw [if_neg (show ¬ m = 6 by omega)]
      rw [if_neg (show ¬ m = 7 by omega)]
      rw [if_neg (show ¬ m = 8 by omega)]
      rw [if_neg (show ¬ m = 9 by omega)]
      rw [if_neg (show ¬ m = 10 by omega)]
      rw [if_neg (show ¬ m = 11 by omega)]
      rw [if_neg (show ¬ m = 12 by omega)]
      rw [if_neg (show ¬ m = 13 by omega)]
    rw [hq]
    refine ⟨185, ⟨fun _ => by kernel_rfl, fun _ _ => by kernel_rfl⟩, ?_⟩
    have : tkd m = fun _ => false := funext fun k => by unfold tkd; rw [decide_eq_false (by omega)]; rfl
    rw [this]
    exact fmuN
  have hk : m = 1 ∨ m = 2 ∨ m = 3 ∨ m = 4 ∨ m = 5 ∨ m = 6 ∨ m = 7 ∨ m = 8 ∨ m = 9 ∨ m = 10 ∨ m = 11 ∨ m = 12 ∨ m = 13 := by omega
  rcases hk with rfl | rfl | rfl | rfl | rfl | rfl | rfl | rfl | rfl | rfl | rfl | rfl | rfl
  · exact ⟨162, ⟨fun _ => by kernel_rfl, fun _ _ => by kernel_rfl⟩, tmu1⟩
  · exact ⟨164, ⟨fun _ => by kernel_rfl, fun _ _ => by kernel_rfl⟩, tmu2⟩
  · exact ⟨166, ⟨fun _ => by kernel_rfl, fun _ _ => by kernel_rfl⟩, tmu3⟩
  · exact ⟨168, ⟨fun _ => by kernel_rfl, fun _ _ => by kernel_rfl⟩, tmu4⟩
  · exact ⟨170, ⟨fun _ => by kernel_rfl, fun _ _ => by kernel_rfl⟩, tmu5⟩
  · exact ⟨172, ⟨fun _ => by kernel_rfl, fun _ _ => by kernel_rfl⟩, tmu6⟩
  · exact ⟨174, ⟨fun _ => by kernel_rfl, fun _ _ => by kernel_rfl⟩, tmu7⟩
  · exact ⟨176, ⟨fun _ => by kernel_rfl, fun _ _ => by kernel_rfl⟩, tmu8⟩
  · exact ⟨178, ⟨fun _ => by kernel_rfl, fun _ _ => by kernel_rfl⟩, tmu9⟩
  · exact ⟨180, ⟨fun _ => by kernel_rfl, fun _ _ => by kernel_rfl⟩, tmu10⟩
  · exact ⟨182, ⟨fun _ => by kernel_rfl, fun _ _ => by kernel_rfl⟩, tmu11⟩
  · exact ⟨184, ⟨fun _ => by kernel_rfl, fun _ _ => by kernel_rfl⟩, tmu12⟩
  · exact ⟨187, ⟨fun _ => by kernel_rfl, fun _ _ => by kernel_rfl⟩, tmu13⟩
end Go.Proofs.YtajagjcfmaggiaaGreatDoor
/- The package's Must of a value that has not the type: no value, what it was, and the error; the conditions: what the value's maker gives, and that the question's assertion panics of it. -/
namespace Go.Proofs.YtajagjcfmaggiaaGreatDoor
open Go.RowKit

/-- A value's block, and two blocks behind it. -/
def Thr (w : World) (k i b : Int) (s : ByteArray) (ad : Option Addr) (len cap : Nat) (w' : World) : Prop :=
  Below (w.heap.size + 3) (((w.alloc (.cells #[.int .i64 k, .int .i64 i, .int .u64 b, .string s, .slice ad len cap] 25)).alloc (.cells #[.int .i64 0, .int .i64 0, .int .u64 0, .string ⟨#[]⟩, .slice none 0 0] 25)).alloc (.cells #[.int .i64 0, .int .i64 0] 188)) w'
theorem Thr.drew {w : World} {k i b : Int} {s : ByteArray} {ad : Option Addr} {len cap : Nat} {w' : World} (h : Thr w k i b s ad len cap w') : Thr w k i b s ad len cap w'.drew := Below.drew h
theorem Thr.below {w : World} {k i b : Int} {s : ByteArray} {ad : Option Addr} {len cap : Nat} {w' : World} (h : Thr w k i b s ad len cap w') : Below w.heap.size w w' :=
  ((((Below.refl _ w).alloc (Nat.le_refl _) _).alloc (by simp) _).alloc (by simp; omega) _).trans (Below.mono h (by omega))
theorem Thr.step {w : World} {k i b : Int} {s : ByteArray} {ad : Option Addr} {len cap : Nat} {w1 w2 : World} (h : Thr w k i b s ad len cap w1) (hb : Below w1.heap.size w1 w2) : Thr w k i b s ad len cap w2 := by
  have := Below.size h
  simp at this
  exact Below.trans h (hb.mono (by omega))
theorem Thr.start (w : World) (k i b : Int) (s : ByteArray) (ad : Option Addr) (len cap : Nat) : Thr w k i b s ad len cap (((w.alloc (.cells #[.int .i64 k, .int .i64 i, .int .u64 b, .string s, .slice ad len cap] 25)).alloc (.cells #[.int .i64 0, .int .i64 0, .int .u64 0, .string ⟨#[]⟩, .slice none 0 0] 25)).alloc (.cells #[.int .i64 0, .int .i64 0] 188)) := Below.refl _ _
theorem Thr.blk {w : World} {k i b : Int} {s : ByteArray} {ad : Option Addr} {len cap : Nat} {w' : World} (h : Thr w k i b s ad len cap w') :
    w'.heap[w.heap.size]? = some (.cells #[.int .i64 k, .int .i64 i, .int .u64 b, .string s, .slice ad len cap] 25 (0, 0)) ∧ w'.heap[w.heap.size + 1]? = some (.cells #[.int .i64 0, .int .i64 0, .int .u64 0, .string ⟨#[]⟩, .slice none 0 0] 25 (0, 0)) ∧ w'.heap[w.heap.size + 2]? = some (.cells #[.int .i64 0, .int .i64 0] 188 (0, 0)) := by
  have e0 := heap_alloc_new w (.cells #[.int .i64 k, .int .i64 i, .int .u64 b, .string s, .slice ad len cap] 25)
  have e1 := heap_alloc_new (w.alloc (.cells #[.int .i64 k, .int .i64 i, .int .u64 b, .string s, .slice ad len cap] 25)) (.cells #[.int .i64 0, .int .i64 0, .int .u64 0, .string ⟨#[]⟩, .slice none 0 0] 25)
  have e2 := heap_alloc_new ((w.alloc (.cells #[.int .i64 k, .int .i64 i, .int .u64 b, .string s, .slice ad len cap] 25)).alloc (.cells #[.int .i64 0, .int .i64 0, .int .u64 0, .string ⟨#[]⟩, .slice none 0 0] 25)) (.cells #[.int .i64 0, .int .i64 0] 188)
  simp only [World.size_alloc] at e1 e2
  refine ⟨?_, ?_, ?_⟩
  · rw [Below.block h w.heap.size (by omega)]
    exact ((below1 _ _).block _ (by simp; omega)).trans (((below1 _ _).block _ (by simp)).trans e0)
  · rw [Below.block h (w.heap.size + 1) (by omega)]
    exact ((below1 _ _).block _ (by simp)).trans e1
  · rw [Below.block h (w.heap.size + 2) (by omega)]
    exact e2
theorem Thr.c {w : World} {k i b : Int} {s : ByteArray} {ad : Option Addr} {len cap : Nat} {w' : World} (h : Thr w k i b s ad len cap w') :
    w'.cell? ⟨w.heap.size, 0, none⟩ = some (.int .i64 k) ∧ w'.cell? ⟨w.heap.size, 1, none⟩ = some (.int .i64 i) ∧ w'.cell? ⟨w.heap.size, 2, none⟩ = some (.int .u64 b) ∧ w'.cell? ⟨w.heap.size, 3, none⟩ = some (.string s) ∧ w'.cell? ⟨w.heap.size, 4, none⟩ = some (.slice ad len cap) := by
  have h0 := h.blk.1
  simp [World.cell?, h0]
theorem Thr.d {w : World} {k i b : Int} {s : ByteArray} {ad : Option Addr} {len cap : Nat} {w' : World} (h : Thr w k i b s ad len cap w') :
    w'.cell? ⟨w.heap.size + 1, 0, none⟩ = some (.int .i64 0) ∧ w'.cell? ⟨w.heap.size + 1, 1, none⟩ = some (.int .i64 0) ∧ w'.cell? ⟨w.heap.size + 1, 2, none⟩ = some (.int .u64 0) ∧ w'.cell? ⟨w.heap.size + 1, 3, none⟩ = some (.string ⟨#[]⟩) ∧ w'.cell? ⟨w.heap.size + 1, 4, none⟩ = some (.slice none 0 0)
    ∧ w'.cell? ⟨w.heap.size + 2, 0, none⟩ = some (.int .i64 0) ∧ w'.cell? ⟨w.heap.size + 2, 1, none⟩ = some (.int .i64 0) ∧ (∀ o, w'.frozen? ⟨w.heap.size + 1, o, none⟩ = false) ∧ (∀ o, w'.frozen? ⟨w.heap.size + 2, o, none⟩ = false) := by
  obtain ⟨-, h1, h2⟩ := h.blk
  simp [World.cell?, World.frozen?, h1, h2]

set_option maxRecDepth 100000 in
set_option maxHeartbeats 2000000 in
theorem must_fail (k i b : Int) (s : ByteArray) (ad : Option Addr) (len cap : Nat) (kind : Int) (Q F : Nat) (w : World) (hq : qty kind = Q) (hm : MethM Q F) (hF : ∀ u w, Kd k u → Calls Tryz.prog F #[.agg #[], u] w fun e w' => Pan w w' e)
    (hO : ∀ wx, Below w.heap.size w wx → Calls Tryz.prog 76 #[.agg #[.int .i64 k, .int .i64 i, .int .u64 b, .string s, .slice ad len cap]] wx fun e w' => ∃ u, e = .returned u ∧ Kd k u ∧ Below wx.heap.size wx w') :
    Calls Tryz.prog 117 #[.agg #[.int .i64 k, .int .i64 i, .int .u64 b, .string s, .slice ad len cap], .int .i64 kind] w fun e w' => e = .returned (.tuple #[.agg #[.int .i64 0, .int .i64 0, .int .u64 0, .string ⟨#[]⟩, .slice none 0 0], .agg #[.int .i64 k, .int .i64 (-1)], .int .i64 20]) ∧ Below w.heap.size w w' := by
  have HT : Hid (∀ wx, Thr w k i b s ad len cap wx → Calls Tryz.prog 70 #[.int .i64 kind] wx fun e w' => e = .returned (.iface Q (.agg #[])) ∧ Thr w k i b s ad len cap w') := fun wx hx => by have := (typeOf_any kind wx).mono (R' := fun e w' => e = .returned (.iface (qty kind) (.agg #[])) ∧ Thr w k i b s ad len cap w') fun e w' ⟨a, b⟩ => ⟨a, b ▸ hx⟩; rw [hq] at this; exact this
  have HO : Hid (∀ wx, Thr w k i b s ad len cap wx → Calls Tryz.prog 76 #[.agg #[.int .i64 k, .int .i64 i, .int .u64 b, .string s, .slice ad len cap]] wx fun e w' => ∃ u, e = .returned u ∧ Kd k u ∧ Thr w k i b s ad len cap w') := fun wx hx => (hO wx hx.below).mono fun e w' ⟨u, a, c, d⟩ => ⟨u, a, c, hx.step d⟩
  have HC : Hid (∀ u wx, Kd k u → Thr w k i b s ad len cap wx → Calls Tryz.prog 131 #[.iface Q (.agg #[]), u] wx fun e w' => e = .returned (.tuple #[.nilIface, .int .i64 20]) ∧ Thr w k i b s ad len cap w') := fun u wx hu hx => (caught_no Q F u wx hm fun w => hF u w hu).mono fun e w' ⟨a, d⟩ => ⟨a, hx.step d⟩
  have HS : Hid (∀ wx, Thr w k i b s ad len cap wx → wx.cell? ⟨w.heap.size, 0, none⟩ = some (.int .i64 k) ∧ wx.cell? ⟨w.heap.size, 1, none⟩ = some (.int .i64 i) ∧ wx.cell? ⟨w.heap.size, 2, none⟩ = some (.int .u64 b) ∧ wx.cell? ⟨w.heap.size, 3, none⟩ = some (.string s) ∧ wx.cell? ⟨w.heap.size, 4, none⟩ = some (.slice ad len cap)) := fun wx h => h.c
  have hb0 := Thr.start w k i b s ad len cap
  clear hq hm hF hO
  go_enter Tryz.func117, Tryz.ntmps117
  go_wp2_with fail
  go_region_held3 (fun w' => w'.cell? ⟨w.heap.size, 0, none⟩ = some (.int .i64 k) ∧ w'.cell? ⟨w.heap.size, 1, none⟩ = some (.int .i64 i) ∧ w'.cell? ⟨w.heap.size, 2, none⟩ = some (.int .u64 b) ∧ w'.cell? ⟨w.heap.size, 3, none⟩ = some (.string s) ∧ w'.cell? ⟨w.heap.size, 4, none⟩ = some (.slice ad len cap)) (exact HS.out _ (by first | assumption | exact Thr.drew (by assumption))) (first | (go_at_call 70; refine (HT.out _ (by first | assumption | exact Thr.drew (by assumption))).mono ?_; rintro e wa ⟨rfl, ba⟩) | (go_at_call 76; refine (HO.out _ (by first | assumption | exact Thr.drew (by assumption))).mono ?_; rintro e wo ⟨ua, rfl, hu, bo⟩) | (go_at_call 131; refine (HC.out _ _ (by assumption) (by first | assumption | exact Thr.drew (by assumption))).mono ?_; rintro e wc ⟨rfl, bc⟩))
  have hc := bc.c.1
  obtain ⟨d0, d1, d2, d3, d4, m0, m1, f1, f2⟩ := bc.d
  have m0' : wc.cell? ⟨w.heap.size + 1 + 1, 0, none⟩ = some (.int .i64 0) := m0
  have m1' : wc.cell? ⟨w.heap.size + 1 + 1, 1, none⟩ = some (.int .i64 0) := m1
  have f2' : ∀ o, wc.frozen? ⟨w.heap.size + 1 + 1, o, none⟩ = false := f2
  have B := bc.below
  clear HT HO HC HS hb0 m0 m1 f2 ba bo hu
  go_wp2
  go_region
  all_goals go_wp2
  all_goals refine bodyPost_ret (v := .tuple #[.agg #[.int .i64 0, .int .i64 0, .int .u64 0, .string ⟨#[]⟩, .slice none 0 0], .agg #[.int .i64 k, .int .i64 (-1)], .int .i64 20]) (by simp [results, Tryz.results117, go_sem, World.cell?_setCell_same, World.cell?_setCell_other, d0, d1, d2, d3, d4, m0', m1']) rfl ⟨rfl, ?_⟩
  all_goals exact (((((((B.setCell (by show w.heap.size ≤ w.heap.size + 1; omega) _).setCell (by show w.heap.size ≤ w.heap.size + 1; omega) _).setCell (by show w.heap.size ≤ w.heap.size + 1; omega) _).setCell (by show w.heap.size ≤ w.heap.size + 1; omega) _).setCell (by show w.heap.size ≤ w.heap.size + 1; omega) _).setCell (by show w.heap.size ≤ w.heap.size + 1 + 1; omega) _).setCell (by show w.heap.size ≤ w.heap.size + 1 + 1; omega) _).drew

end Go.Proofs.YtajagjcfmaggiaaGreatDoor
/- The value that the package makes of a valid tree has the tree's kind; and the package's value.Of; the conditions: the tree in memory and valid. -/
namespace Go.Proofs.YtajagjcfmaggiaaGreatDoor
open Go.RowKit
theorem Dt.T2.f {w : World} {a0 a1 a2 a3 a4 b0 b1 b2 b3 b4 : Value} {w' : World} (h : Dt.T2 w a0 a1 a2 a3 a4 b0 b1 b2 b3 b4 w') (o : Nat) : w'.frozen? ⟨w.heap.size + 1, o, none⟩ = false := by
  have e1 := heap_alloc_new (w.alloc (.cells #[a0, a1, a2, a3, a4] 25)) (.cells #[b0, b1, b2, b3, b4] 25)
  simp only [World.size_alloc] at e1
  have h1 : w'.heap[w.heap.size + 1]? = some (.cells #[b0, b1, b2, b3, b4] 25 (0, 0)) := (Below.block h (w.heap.size + 1) (by omega)).trans e1
  simp [World.frozen?, h1]
theorem vr_kind {F : Nat → Prop} {w : World} {n : Nat} {v : Value} {t : Dt.Tr (n + 1)} (h : Dt.VR F w (n + 1) v t) : Kd t.kd v := by
  simp only [Dt.VR] at h
  rcases h with ⟨k, rfl⟩ | ⟨k, rfl⟩ | ⟨k, rfl⟩ | ⟨k, rfl⟩ | ⟨k, rfl⟩ | ⟨k, rfl⟩ | ⟨k, rfl⟩ | ⟨k, g, c, cs, fr, rfl, -⟩ | ⟨k, a, c, rfl, -⟩ | ⟨k, x, y, t0, t1, rfl, -, e3, e4⟩ | ⟨k, rfl⟩ | ⟨k, b, u, t0, rfl, -⟩ | ⟨k, rfl⟩ | ⟨k, rfl⟩
  all_goals rw [k]
  · exact .inl ⟨by omega, rfl⟩
  · exact Kd.plain 1 _ (by decide) (by decide)
  · exact Kd.plain 2 _ (by decide) (by decide)
  · exact Kd.plain 3 _ (by decide) (by decide)
  · exact Kd.plain 4 _ (by decide) (by decide)
  · exact Kd.plain 5 _ (by decide) (by decide)
  · exact Kd.plain 6 _ (by decide) (by decide)
  · exact Kd.plain 7 _ (by decide) (by decide)
  · exact Kd.plain 8 _ (by decide) (by decide)
  · exact Kd.pair x y (Dt.vr_any e3) (Dt.vr_any e4)
  · exact Kd.fail _ _
  · exact Kd.ptr _
  · exact Kd.nilp
  · exact Kd.unit

set_option maxRecDepth 100000 in
set_option maxHeartbeats 1000000 in
theorem of_val (W0 : World) (m : Nat) (t : Dt.Tr (m + 1)) (k i b : Int) (s : ByteArray) (ad : Option Addr) (len cap : Nat) (w : World) (hrg : Dt.rgt (m + 1) t = true) (hps : (Dt.pts (m + 1) t).1 ≤ 4096) (hrep : Dt.Rep W0 (m + 1) [.int .i64 k, .int .i64 i, .int .u64 b, .string s, .slice ad len cap] t) (hb : Below W0.heap.size W0 w) :
    Calls Tryz.prog 76 #[.agg #[.int .i64 k, .int .i64 i, .int .u64 b, .string s, .slice ad len cap]] w fun e w' => ∃ u, e = .returned u ∧ Kd k u ∧ Hid (Dt.VR (fun g => w.heap.size ≤ g ∧ g < w'.heap.size) w' (m + 1) u t) ∧ Below w.heap.size w w' := by
  have hk : t.kd = k := by
    obtain ⟨ad, cap, e, -⟩ := hrep
    simp only [List.cons.injEq, and_true, Value.int.injEq] at e
    exact e.1.2.symm
  have HO : Hid (Calls Tryz.prog 86 #[.agg #[.map none], .agg #[.int .i64 k, .int .i64 i, .int .u64 b, .string s, .slice ad len cap]] (w.alloc (.cells #[.int .i64 k, .int .i64 i, .int .u64 b, .string s, .slice ad len cap] 25)) fun e w' => ∃ u, e = .returned u ∧ Kd k u ∧ Hid (Dt.VR (fun g => w.heap.size ≤ g ∧ g < w'.heap.size) w' (m + 1) u t) ∧ Below w.heap.size w w') := by
    have b1 := below1 w (.cells #[.int .i64 k, .int .i64 i, .int .u64 b, .string s, .slice ad len cap] 25)
    refine (Dt.value_nb W0 (m + 1) t _ _ _ _ _ _ hrg hps hrep (hb.trans (b1.mono hb.size))).mono fun e w' ⟨u, he, vr, hb'⟩ => ⟨u, he, hk ▸ vr_kind vr, Dt.VR.to (fun q hq => ⟨⟨by have h := hq.1; simp at h; omega, hq.2⟩, rfl⟩) _ _ _ vr, b1.trans (hb'.mono (by simp))⟩
  clear hk hrg hps hrep hb
  go_enter Tryz.func76, Tryz.ntmps76
  go_wp2_with fail
  refine HO.out.mono ?_
  rintro e w1 ⟨u, rfl, hx, vr, b1⟩
  go_wp2
  go_ret
  exact ⟨u, rfl, hx, vr, b1⟩
end Go.Proofs.YtajagjcfmaggiaaGreatDoor
/- The package's Must of a value that has the type: the value's plain data; the conditions: what the value's maker gives. -/
namespace Go.Proofs.YtajagjcfmaggiaaGreatDoor
open Go.RowKit
theorem Thr.size3 {w : World} {k i b : Int} {s : ByteArray} {ad : Option Addr} {len cap : Nat} {w' : World} (h : Thr w k i b s ad len cap w') : w.heap.size + 3 ≤ w'.heap.size := by
  have := Below.size h
  simp at this
  omega
set_option maxRecDepth 100000 in
set_option maxHeartbeats 4000000 in
theorem must_yes (m : Nat) (t : Dt.Tr m) (hrg : Dt.rgt m t = true) (h64 : Dt.r64 m t) (hps : (Dt.pts m t).1 ≤ 4096) (k i b : Int) (s : ByteArray) (ad : Option Addr) (len cap : Nat) (kind : Int) (w : World) (hq : tkd kind k = true)
    (hO : ∀ wx, Below w.heap.size w wx → Calls Tryz.prog 76 #[.agg #[.int .i64 k, .int .i64 i, .int .u64 b, .string s, .slice ad len cap]] wx fun e w' => ∃ u, e = .returned u ∧ Kd k u ∧ Hid (Dt.VR (fun g => wx.heap.size ≤ g ∧ g < w'.heap.size) w' m u t) ∧ Below wx.heap.size wx w') :
    Calls Tryz.prog 117 #[.agg #[.int .i64 k, .int .i64 i, .int .u64 b, .string s, .slice ad len cap], .int .i64 kind] w fun e w' => ∃ v0 v1 v2 v3 v4, e = .returned (.tuple #[.agg #[v0, v1, v2, v3, v4], .agg #[.int .i64 0, .int .i64 0], .int .i64 0]) ∧ Dt.Rf (fun g => w.heap.size ≤ g ∧ g < w'.heap.size) w' m [v0, v1, v2, v3, v4] t ∧ Below w.heap.size w w' := by
  obtain ⟨F, hm, hM⟩ := type_musts kind
  have HT : Hid (∀ wx, Thr w k i b s ad len cap wx → Calls Tryz.prog 70 #[.int .i64 kind] wx fun e w' => e = .returned (.iface (qty kind) (.agg #[])) ∧ Thr w k i b s ad len cap w') := fun wx hx => (typeOf_any kind wx).mono fun e w' ⟨a, b⟩ => ⟨a, b ▸ hx⟩
  have HO : Hid (∀ wx, Thr w k i b s ad len cap wx → Calls Tryz.prog 76 #[.agg #[.int .i64 k, .int .i64 i, .int .u64 b, .string s, .slice ad len cap]] wx fun e w' => ∃ u, e = .returned u ∧ Sx u ∧ Kd k u ∧ Hid (∃ F0 W0, Dt.VR F0 W0 m u t ∧ Below W0.heap.size W0 w') ∧ Thr w k i b s ad len cap w') := fun wx hx => (hO wx hx.below).mono fun e w' ⟨u, a, c, vr, d⟩ => ⟨u, a, by
      rcases c with ⟨-, e⟩ | ⟨-, -, v, e, -⟩
      · exact .inl e
      · exact .inr ⟨_, _, e⟩, c, ⟨_, w', vr.out, Below.refl _ _⟩, hx.step d⟩
  have HC : Hid (∀ u wx, Kd k u → Hid (∃ F0 W0, Dt.VR F0 W0 m u t ∧ Below W0.heap.size W0 wx) → Thr w k i b s ad len cap wx → Calls Tryz.prog 131 #[.iface (qty kind) (.agg #[]), u] wx fun e w' => e = .returned (.tuple #[u, .int .i64 0]) ∧ Hid (∃ F0 W0, Dt.VR F0 W0 m u t ∧ Below W0.heap.size W0 w') ∧ Thr w k i b s ad len cap w') := fun u wx hu hv hx => (caught_yes (qty kind) F u wx hm fun w => (hM k u w hu).1 hq).mono fun e w' ⟨a, d⟩ => ⟨a, by
      obtain ⟨F0, W0, v1, v2⟩ := hv.out
      exact ⟨F0, W0, v1, v2.trans (d.mono v2.size)⟩, hx.step d⟩
  have HS : Hid (∀ wx, Thr w k i b s ad len cap wx → wx.cell? ⟨w.heap.size, 0, none⟩ = some (.int .i64 k) ∧ wx.cell? ⟨w.heap.size, 1, none⟩ = some (.int .i64 i) ∧ wx.cell? ⟨w.heap.size, 2, none⟩ = some (.int .u64 b) ∧ wx.cell? ⟨w.heap.size, 3, none⟩ = some (.string s) ∧ wx.cell? ⟨w.heap.size, 4, none⟩ = some (.slice ad len cap)) := fun wx h => h.c
  have HP : Hid (∀ (v : Value) (w : World), Hid (∃ F0 W0, Dt.VR F0 W0 m v t ∧ Below W0.heap.size W0 w) → Calls Tryz.prog 82 #[v] w fun e w' => ∃ (u0 u1 u2 : Int) (u3 : ByteArray) (a4 : Option Addr) (n4 c4 : Nat), e = .returned (.agg #[.int .i64 u0, .int .i64 u1, .int .u64 u2, .string u3, .slice a4 n4 c4]) ∧ Hid (Dt.Rf (fun g => w.heap.size ≤ g ∧ g < w'.heap.size) w' m [.int .i64 u0, .int .i64 u1, .int .u64 u2, .string u3, .slice a4 n4 c4] t) ∧ Below w.heap.size w w') := fun v w hv => by
    obtain ⟨F0, W0, h1, h2⟩ := hv.out
    refine (Dt.plain_any F0 W0 m t v w hrg h64 hps h1 h2).mono fun e w' ⟨v0, v1, v2, v3, v4, he, rf, hb'⟩ => ?_
    obtain ⟨u0, u1, u2, u3, a4, n4, c4', rfl, rfl, rfl, rfl, rfl⟩ := Dt.rep_shape (Dt.Rf.rep _ _ _ rf)
    exact ⟨u0, u1, u2, u3, a4, n4, c4', he, rf, hb'⟩
  have hb0 := Thr.start w k i b s ad len cap
  clear hm hM hO hq hrg h64 hps
  generalize qty kind = Q at HT HC
  go_enter Tryz.func117, Tryz.ntmps117
  go_wp2_with fail
  go_region_held3 (fun w' => w'.cell? ⟨w.heap.size, 0, none⟩ = some (.int .i64 k) ∧ w'.cell? ⟨w.heap.size, 1, none⟩ = some (.int .i64 i) ∧ w'.cell? ⟨w.heap.size, 2, none⟩ = some (.int .u64 b) ∧ w'.cell? ⟨w.heap.size, 3, none⟩ = some (.string s) ∧ w'.cell? ⟨w.heap.size, 4, none⟩ = some (.slice ad len cap)) (exact HS.out _ (by first | assumption | exact Thr.drew (by assumption))) (first | (go_at_call 70; refine (HT.out _ (by first | assumption | exact Thr.drew (by assumption))).mono ?_; rintro e wa ⟨rfl, ba⟩) | (go_at_call 76; refine (HO.out _ (by first | assumption | exact Thr.drew (by assumption))).mono ?_; rintro e wo ⟨ua, rfl, sx, hu, hv, bo⟩) | (go_at_call 131; refine (HC.out _ _ (by assumption) (by assumption) (by first | assumption | exact Thr.drew (by assumption))).mono ?_; rintro e wc ⟨rfl, hv, bc⟩))
  have B := bc.below
  clear HT HO HC HS hb0 ba bo hu
  rcases sx with rfl | ⟨T, z, rfl⟩
  all_goals
    go_wp2_with fail
    refine (HP.out _ _ hv).mono ?_
    rintro e w4 ⟨u0, u1, u2, u3, a4, n4, c4, rfl, rf, b4⟩
    have h4 := bc.step b4
    obtain ⟨d0, d1, d2, d3, d4, m0, m1, f1, f2⟩ := h4.d
    have m0' : w4.cell? ⟨w.heap.size + 1 + 1, 0, none⟩ = some (.int .i64 0) := m0
    have m1' : w4.cell? ⟨w.heap.size + 1 + 1, 1, none⟩ = some (.int .i64 0) := m1
    have f2' : ∀ o, w4.frozen? ⟨w.heap.size + 1 + 1, o, none⟩ = false := f2
    have B := h4.below
    have z3 := bc.size3
    clear m0 m1 f2
    go_wp2
    refine bodyPost_ret (v := .tuple #[.agg #[.int .i64 u0, .int .i64 u1, .int .u64 u2, .string u3, .slice a4 n4 c4], .agg #[.int .i64 0, .int .i64 0], .int .i64 0]) (by simp [results, Tryz.results117, go_sem, World.cell?_setCell_same, World.cell?_setCell_other, d0, d1, d2, d3, d4, m0', m1']) rfl ⟨_, _, _, _, _, rfl, ?_, ?_⟩
    · refine Dt.Rf.to (fun q hq => ⟨⟨by have := hq.1; omega, by simp [World.setCell]; exact hq.2⟩, ?_⟩) _ _ _ rf.out
      have hne : q ≠ w.heap.size + 1 := by have := hq.1; omega
      have hne' : q ≠ w.heap.size + 1 + 1 := by have := hq.1; omega
      rw [Below.heap_setCell _ _ _ q hne', Below.heap_setCell _ _ _ q hne', Below.heap_setCell _ _ _ q hne, Below.heap_setCell _ _ _ q hne, Below.heap_setCell _ _ _ q hne, Below.heap_setCell _ _ _ q hne, Below.heap_setCell _ _ _ q hne]
    · exact ((((((B.setCell (by show w.heap.size ≤ w.heap.size + 1; omega) _).setCell (by show w.heap.size ≤ w.heap.size + 1; omega) _).setCell (by show w.heap.size ≤ w.heap.size + 1; omega) _).setCell (by show w.heap.size ≤ w.heap.size + 1; omega) _).setCell (by show w.heap.size ≤ w.heap.size + 1; omega) _).setCell (by show w.heap.size ≤ w.heap.size + 1 + 1; omega) _).setCell (by show w.heap.size ≤ w.heap.size + 1 + 1; omega) _
end Go.Proofs.YtajagjcfmaggiaaGreatDoor
