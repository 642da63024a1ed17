/- Each type's question in the form that panics: the value itself, where it has the type, else the panic; no condition. -/
import Derived.Test.YtajagjcfmaggiaaGreatDoorKCcb
import Derived.Test.YtajagjcfmaggiaaGreatDoorKCcc
namespace Go.Proofs.YtajagjcfmaggiaaGreatDoor
open Go.RowKit

theorem tkd_no {k : Int} (h : k < 1 ∨ 13 < k) (m : Int) : tkd m k = false := by
  unfold tkd
  by_cases hm : 1 ≤ m ∧ m ≤ 13
  · have h1 : (k == m) = false := by simp; omega
    have h2 : (k == 12) = false := by simp; omega
    rw [h1, h2]; simp
  · rw [decide_eq_false hm]; rfl

set_option maxRecDepth 100000 in
set_option maxHeartbeats 1000000 in
theorem tno1 (u : Value) (w : World) (o : Obj) (h : ∀ w : World, (Instr.typeAssert u 20 140 false).run Tryz.prog w = .halt (.panic (.iface 15 (.pointer (some ⟨w.heap.size, 0, none⟩)))) (w.alloc o)) : Calls Tryz.prog 162 #[.agg #[], u] w fun e w' => Pan w w' e := by
  go_enter Tryz.func162, Tryz.ntmps162
  go_wp2
  exact ⟨rfl, _, rfl, below2 w _ _⟩
set_option maxRecDepth 100000 in
set_option maxHeartbeats 1000000 in
theorem tyes1 (z : Value) (w : World) : Calls Tryz.prog 162 #[.agg #[], .iface 140 (z)] w fun e w' => e = .returned (.iface 140 (z)) ∧ Below w.heap.size w w' := by
  have h : ∀ w : World, (Instr.typeAssert (.iface 140 (z)) 20 140 false).run Tryz.prog w = .ok (z) w := fun w => must_is Tryz.underlying140 (fun m h => by cases h) w
  go_enter Tryz.func162, Tryz.ntmps162
  go_wp2
  go_ret
  exact ⟨rfl, below1 w _⟩
theorem tmu1 : Musts 162 (tkd 1) := by
  intro k u w hk
  rcases hk.cases with ⟨h0, rfl⟩ | ⟨rfl, a, rfl⟩ | ⟨rfl, a, rfl⟩ | ⟨rfl, a, rfl⟩ | ⟨rfl, a, rfl⟩ | ⟨rfl, a, rfl⟩ | ⟨rfl, a, rfl⟩ | ⟨rfl, a, rfl⟩ | ⟨rfl, a, rfl⟩ | ⟨rfl, a, b, rfl, ha, hb⟩ | ⟨rfl, c, a, rfl⟩ | ⟨rfl, a, rfl⟩ | ⟨rfl, rfl⟩ | ⟨rfl, rfl⟩
  · obtain ⟨o, ho⟩ := must_nil (x := 20) Tryz.underlying140
    exact Musts.no (tkd_no h0 1) (tno1 _ w o ho)
  · exact Musts.yes (by decide) (tyes1 _ w)
  · obtain ⟨o, ho⟩ := must_ty (t := 141) (x := 20) (v := _) Tryz.underlying140 (fun m h => by cases h) (by decide)
    exact Musts.no (by decide) (tno1 _ w o ho)
  · obtain ⟨o, ho⟩ := must_ty (t := 142) (x := 20) (v := _) Tryz.underlying140 (fun m h => by cases h) (by decide)
    exact Musts.no (by decide) (tno1 _ w o ho)
  · obtain ⟨o, ho⟩ := must_ty (t := 101) (x := 20) (v := _) Tryz.underlying140 (fun m h => by cases h) (by decide)
    exact Musts.no (by decide) (tno1 _ w o ho)
  · obtain ⟨o, ho⟩ := must_ty (t := 143) (x := 20) (v := _) Tryz.underlying140 (fun m h => by cases h) (by decide)
    exact Musts.no (by decide) (tno1 _ w o ho)
  · obtain ⟨o, ho⟩ := must_ty (t := 144) (x := 20) (v := _) Tryz.underlying140 (fun m h => by cases h) (by decide)
    exact Musts.no (by decide) (tno1 _ w o ho)
  · obtain ⟨o, ho⟩ := must_ty (t := 147) (x := 20) (v := _) Tryz.underlying140 (fun m h => by cases h) (by decide)
    exact Musts.no (by decide) (tno1 _ w o ho)
  · obtain ⟨o, ho⟩ := must_ty (t := 149) (x := 20) (v := _) Tryz.underlying140 (fun m h => by cases h) (by decide)
    exact Musts.no (by decide) (tno1 _ w o ho)
  · obtain ⟨o, ho⟩ := must_ty (t := 152) (x := 20) (v := _) Tryz.underlying140 (fun m h => by cases h) (by decide)
    exact Musts.no (by decide) (tno1 _ w o ho)
  · obtain ⟨o, ho⟩ := must_ty (t := 154) (x := 20) (v := _) Tryz.underlying140 (fun m h => by cases h) (by decide)
    exact Musts.no (by decide) (tno1 _ w o ho)
  · obtain ⟨o, ho⟩ := must_ty (t := 155) (x := 20) (v := _) Tryz.underlying140 (fun m h => by cases h) (by decide)
    exact Musts.no (by decide) (tno1 _ w o ho)
  · obtain ⟨o, ho⟩ := must_ty (t := 155) (x := 20) (v := _) Tryz.underlying140 (fun m h => by cases h) (by decide)
    exact Musts.no (by decide) (tno1 _ w o ho)
  · obtain ⟨o, ho⟩ := must_ty (t := 157) (x := 20) (v := _) Tryz.underlying140 (fun m h => by cases h) (by decide)
    exact Musts.no (by decide) (tno1 _ w o ho)

set_option maxRecDepth 100000 in
set_option maxHeartbeats 1000000 in
theorem tno2 (u : Value) (w : World) (o : Obj) (h : ∀ w : World, (Instr.typeAssert u 20 141 false).run Tryz.prog w = .halt (.panic (.iface 15 (.pointer (some ⟨w.heap.size, 0, none⟩)))) (w.alloc o)) : Calls Tryz.prog 164 #[.agg #[], u] w fun e w' => Pan w w' e := by
  go_enter Tryz.func164, Tryz.ntmps164
  go_wp2
  exact ⟨rfl, _, rfl, below2 w _ _⟩
set_option maxRecDepth 100000 in
set_option maxHeartbeats 1000000 in
theorem tyes2 (z : Value) (w : World) : Calls Tryz.prog 164 #[.agg #[], .iface 141 (z)] w fun e w' => e = .returned (.iface 141 (z)) ∧ Below w.heap.size w w' := by
  have h : ∀ w : World, (Instr.typeAssert (.iface 141 (z)) 20 141 false).run Tryz.prog w = .ok (z) w := fun w => must_is Tryz.underlying141 (fun m h => by cases h) w
  go_enter Tryz.func164, Tryz.ntmps164
  go_wp2
  go_ret
  exact ⟨rfl, below1 w _⟩
theorem tmu2 : Musts 164 (tkd 2) := by
  intro k u w hk
  rcases hk.cases with ⟨h0, rfl⟩ | ⟨rfl, a, rfl⟩ | ⟨rfl, a, rfl⟩ | ⟨rfl, a, rfl⟩ | ⟨rfl, a, rfl⟩ | ⟨rfl, a, rfl⟩ | ⟨rfl, a, rfl⟩ | ⟨rfl, a, rfl⟩ | ⟨rfl, a, rfl⟩ | ⟨rfl, a, b, rfl, ha, hb⟩ | ⟨rfl, c, a, rfl⟩ | ⟨rfl, a, rfl⟩ | ⟨rfl, rfl⟩ | ⟨rfl, rfl⟩
  · obtain ⟨o, ho⟩ := must_nil (x := 20) Tryz.underlying141
    exact Musts.no (tkd_no h0 2) (tno2 _ w o ho)
  · obtain ⟨o, ho⟩ := must_ty (t := 140) (x := 20) (v := _) Tryz.underlying141 (fun m h => by cases h) (by decide)
    exact Musts.no (by decide) (tno2 _ w o ho)
  · exact Musts.yes (by decide) (tyes2 _ w)
  · obtain ⟨o, ho⟩ := must_ty (t := 142) (x := 20) (v := _) Tryz.underlying141 (fun m h => by cases h) (by decide)
    exact Musts.no (by decide) (tno2 _ w o ho)
  · obtain ⟨o, ho⟩ := must_ty (t := 101) (x := 20) (v := _) Tryz.underlying141 (fun m h => by cases h) (by decide)
    exact Musts.no (by decide) (tno2 _ w o ho)
  · obtain ⟨o, ho⟩ := must_ty (t := 143) (x := 20) (v := _) Tryz.underlying141 (fun m h => by cases h) (by decide)
    exact Musts.no (by decide) (tno2 _ w o ho)
  · obtain ⟨o, ho⟩ := must_ty (t := 144) (x := 20) (v := _) Tryz.underlying141 (fun m h => by cases h) (by decide)
    exact Musts.no (by decide) (tno2 _ w o ho)
  · obtain ⟨o, ho⟩ := must_ty (t := 147) (x := 20) (v := _) Tryz.underlying141 (fun m h => by cases h) (by decide)
    exact Musts.no (by decide) (tno2 _ w o ho)
  · obtain ⟨o, ho⟩ := must_ty (t := 149) (x := 20) (v := _) Tryz.underlying141 (fun m h => by cases h) (by decide)
    exact Musts.no (by decide) (tno2 _ w o ho)
  · obtain ⟨o, ho⟩ := must_ty (t := 152) (x := 20) (v := _) Tryz.underlying141 (fun m h => by cases h) (by decide)
    exact Musts.no (by decide) (tno2 _ w o ho)
  · obtain ⟨o, ho⟩ := must_ty (t := 154) (x := 20) (v := _) Tryz.underlying141 (fun m h => by cases h) (by decide)
    exact Musts.no (by decide) (tno2 _ w o ho)
  · obtain ⟨o, ho⟩ := must_ty (t := 155) (x := 20) (v := _) Tryz.underlying141 (fun m h => by cases h) (by decide)
    exact Musts.no (by decide) (tno2 _ w o ho)
  · obtain ⟨o, ho⟩ := must_ty (t := 155) (x := 20) (v := _) Tryz.underlying141 (fun m h => by cases h) (by decide)
    exact Musts.no (by decide) (tno2 _ w o ho)
  · obtain ⟨o, ho⟩ := must_ty (t := 157) (x := 20) (v := _) Tryz.underlying141 (fun m h => by cases h) (by decide)
    exact Musts.no (by decide) (tno2 _ w o ho)

set_option maxRecDepth 100000 in
set_option maxHeartbeats 1000000 in
theorem tno3 (u : Value) (w : World) (o : Obj) (h : ∀ w : World, (Instr.typeAssert u 20 142 false).run Tryz.prog w = .halt (.panic (.iface 15 (.pointer (some ⟨w.heap.size, 0, none⟩)))) (w.alloc o)) : Calls Tryz.prog 166 #[.agg #[], u] w fun e w' => Pan w w' e := by
  go_enter Tryz.func166, Tryz.ntmps166
  go_wp2
  exact ⟨rfl, _, rfl, below2 w _ _⟩
set_option maxRecDepth 100000 in
set_option maxHeartbeats 1000000 in
theorem tyes3 (z : Value) (w : World) : Calls Tryz.prog 166 #[.agg #[], .iface 142 (z)] w fun e w' => e = .returned (.iface 142 (z)) ∧ Below w.heap.size w w' := by
  have h : ∀ w : World, (Instr.typeAssert (.iface 142 (z)) 20 142 false).run Tryz.prog w = .ok (z) w := fun w => must_is Tryz.underlying142 (fun m h => by cases h) w
  go_enter Tryz.func166, Tryz.ntmps166
  go_wp2
  go_ret
  exact ⟨rfl, below1 w _⟩
theorem tmu3 : Musts 166 (tkd 3) := by
  intro k u w hk
  rcases hk.cases with ⟨h0, rfl⟩ | ⟨rfl, a, rfl⟩ | ⟨rfl, a, rfl⟩ | ⟨rfl, a, rfl⟩ | ⟨rfl, a, rfl⟩ | ⟨rfl, a, rfl⟩ | ⟨rfl, a, rfl⟩ | ⟨rfl, a, rfl⟩ | ⟨rfl, a, rfl⟩ | ⟨rfl, a, b, rfl, ha, hb⟩ | ⟨rfl, c, a, rfl⟩ | ⟨rfl, a, rfl⟩ | ⟨rfl, rfl⟩ | ⟨rfl, rfl⟩
  · obtain ⟨o, ho⟩ := must_nil (x := 20) Tryz.underlying142
    exact Musts.no (tkd_no h0 3) (tno3 _ w o ho)
  · obtain ⟨o, ho⟩ := must_ty (t := 140) (x := 20) (v := _) Tryz.underlying142 (fun m h => by cases h) (by decide)
    exact Musts.no (by decide) (tno3 _ w o ho)
  · obtain ⟨o, ho⟩ := must_ty (t := 141) (x := 20) (v := _) Tryz.underlying142 (fun m h => by cases h) (by decide)
    exact Musts.no (by decide) (tno3 _ w o ho)
  · exact Musts.yes (by decide) (tyes3 _ w)
  · obtain ⟨o, ho⟩ := must_ty (t := 101) (x := 20) (v := _) Tryz.underlying142 (fun m h => by cases h) (by decide)
    exact Musts.no (by decide) (tno3 _ w o ho)
  · obtain ⟨o, ho⟩ := must_ty (t := 143) (x := 20) (v := _) Tryz.underlying142 (fun m h => by cases h) (by decide)
    exact Musts.no (by decide) (tno3 _ w o ho)
  · obtain ⟨o, ho⟩ := must_ty (t := 144) (x := 20) (v := _) Tryz.underlying142 (fun m h => by cases h) (by decide)
    exact Musts.no (by decide) (tno3 _ w o ho)
  · obtain ⟨o, ho⟩ := must_ty (t := 147) (x := 20) (v := _) Tryz.underlying142 (fun m h => by cases h) (by decide)
    exact Musts.no (by decide) (tno3 _ w o ho)
  · obtain ⟨o, ho⟩ := must_ty (t := 149) (x := 20) (v := _) Tryz.underlying142 (fun m h => by cases h) (by decide)
    exact Musts.no (by decide) (tno3 _ w o ho)
  · obtain ⟨o, ho⟩ := must_ty (t := 152) (x := 20) (v := _) Tryz.underlying142 (fun m h => by cases h) (by decide)
    exact Musts.no (by decide) (tno3 _ w o ho)
  · obtain ⟨o, ho⟩ := must_ty (t := 154) (x := 20) (v := _) Tryz.underlying142 (fun m h => by cases h) (by decide)
    exact Musts.no (by decide) (tno3 _ w o ho)
  · obtain ⟨o, ho⟩ := must_ty (t := 155) (x := 20) (v := _) Tryz.underlying142 (fun m h => by cases h) (by decide)
    exact Musts.no (by decide) (tno3 _ w o ho)
  · obtain ⟨o, ho⟩ := must_ty (t := 155) (x := 20) (v := _) Tryz.underlying142 (fun m h => by cases h) (by decide)
    exact Musts.no (by decide) (tno3 _ w o ho)
  · obtain ⟨o, ho⟩ := must_ty (t := 157) (x := 20) (v := _) Tryz.underlying142 (fun m h => by cases h) (by decide)
    exact Musts.no (by decide) (tno3 _ w o ho)

set_option maxRecDepth 100000 in
set_option maxHeartbeats 1000000 in
theorem tno4 (u : Value) (w : World) (o : Obj) (h : ∀ w : World, (Instr.typeAssert u 20 101 false).run Tryz.prog w = .halt (.panic (.iface 15 (.pointer (some ⟨w.heap.size, 0, none⟩)))) (w.alloc o)) : Calls Tryz.prog 168 #[.agg #[], u] w fun e w' => Pan w w' e := by
  go_enter Tryz.func168, Tryz.ntmps168
  go_wp2
  exact ⟨rfl, _, rfl, below2 w _ _⟩
set_option maxRecDepth 100000 in
set_option maxHeartbeats 1000000 in
theorem tyes4 (z : Value) (w : World) : Calls Tryz.prog 168 #[.agg #[], .iface 101 (z)] w fun e w' => e = .returned (.iface 101 (z)) ∧ Below w.heap.size w w' := by
  have h : ∀ w : World, (Instr.typeAssert (.iface 101 (z)) 20 101 false).run Tryz.prog w = .ok (z) w := fun w => must_is Tryz.underlying101 (fun m h => by cases h) w
  go_enter Tryz.func168, Tryz.ntmps168
  go_wp2
  go_ret
  exact ⟨rfl, below1 w _⟩
theorem tmu4 : Musts 168 (tkd 4) := by
  intro k u w hk
  rcases hk.cases with ⟨h0, rfl⟩ | ⟨rfl, a, rfl⟩ | ⟨rfl, a, rfl⟩ | ⟨rfl, a, rfl⟩ | ⟨rfl, a, rfl⟩ | ⟨rfl, a, rfl⟩ | ⟨rfl, a, rfl⟩ | ⟨rfl, a, rfl⟩ | ⟨rfl, a, rfl⟩ | ⟨rfl, a, b, rfl, ha, hb⟩ | ⟨rfl, c, a, rfl⟩ | ⟨rfl, a, rfl⟩ | ⟨rfl, rfl⟩ | ⟨rfl, rfl⟩
  · obtain ⟨o, ho⟩ := must_nil (x := 20) Tryz.underlying101
    exact Musts.no (tkd_no h0 4) (tno4 _ w o ho)
  · obtain ⟨o, ho⟩ := must_ty (t := 140) (x := 20) (v := _) Tryz.underlying101 (fun m h => by cases h) (by decide)
    exact Musts.no (by decide) (tno4 _ w o ho)
  · obtain ⟨o, ho⟩ := must_ty (t := 141) (x := 20) (v := _) Tryz.underlying101 (fun m h => by cases h) (by decide)
    exact Musts.no (by decide) (tno4 _ w o ho)
  · obtain ⟨o, ho⟩ := must_ty (t := 142) (x := 20) (v := _) Tryz.underlying101 (fun m h => by cases h) (by decide)
    exact Musts.no (by decide) (tno4 _ w o ho)
  · exact Musts.yes (by decide) (tyes4 _ w)
  · obtain ⟨o, ho⟩ := must_ty (t := 143) (x := 20) (v := _) Tryz.underlying101 (fun m h => by cases h) (by decide)
    exact Musts.no (by decide) (tno4 _ w o ho)
  · obtain ⟨o, ho⟩ := must_ty (t := 144) (x := 20) (v := _) Tryz.underlying101 (fun m h => by cases h) (by decide)
    exact Musts.no (by decide) (tno4 _ w o ho)
  · obtain ⟨o, ho⟩ := must_ty (t := 147) (x := 20) (v := _) Tryz.underlying101 (fun m h => by cases h) (by decide)
    exact Musts.no (by decide) (tno4 _ w o ho)
  · obtain ⟨o, ho⟩ := must_ty (t := 149) (x := 20) (v := _) Tryz.underlying101 (fun m h => by cases h) (by decide)
    exact Musts.no (by decide) (tno4 _ w o ho)
  · obtain ⟨o, ho⟩ := must_ty (t := 152) (x := 20) (v := _) Tryz.underlying101 (fun m h => by cases h) (by decide)
    exact Musts.no (by decide) (tno4 _ w o ho)
  · obtain ⟨o, ho⟩ := must_ty (t := 154) (x := 20) (v := _) Tryz.underlying101 (fun m h => by cases h) (by decide)
    exact Musts.no (by decide) (tno4 _ w o ho)
  · obtain ⟨o, ho⟩ := must_ty (t := 155) (x := 20) (v := _) Tryz.underlying101 (fun m h => by cases h) (by decide)
    exact Musts.no (by decide) (tno4 _ w o ho)
  · obtain ⟨o, ho⟩ := must_ty (t := 155) (x := 20) (v := _) Tryz.underlying101 (fun m h => by cases h) (by decide)
    exact Musts.no (by decide) (tno4 _ w o ho)
  · obtain ⟨o, ho⟩ := must_ty (t := 157) (x := 20) (v := _) Tryz.underlying101 (fun m h => by cases h) (by decide)
    exact Musts.no (by decide) (tno4 _ w o ho)

set_option maxRecDepth 100000 in
set_option maxHeartbeats 1000000 in
theorem tno5 (u : Value) (w : World) (o : Obj) (h : ∀ w : World, (Instr.typeAssert u 20 143 false).run Tryz.prog w = .halt (.panic (.iface 15 (.pointer (some ⟨w.heap.size, 0, none⟩)))) (w.alloc o)) : Calls Tryz.prog 170 #[.agg #[], u] w fun e w' => Pan w w' e := by
  go_enter Tryz.func170, Tryz.ntmps170
  go_wp2
  exact ⟨rfl, _, rfl, below2 w _ _⟩
set_option maxRecDepth 100000 in
set_option maxHeartbeats 1000000 in
theorem tyes5 (z : Value) (w : World) : Calls Tryz.prog 170 #[.agg #[], .iface 143 (z)] w fun e w' => e = .returned (.iface 143 (z)) ∧ Below w.heap.size w w' := by
  have h : ∀ w : World, (Instr.typeAssert (.iface 143 (z)) 20 143 false).run Tryz.prog w = .ok (z) w := fun w => must_is Tryz.underlying143 (fun m h => by cases h) w
  go_enter Tryz.func170, Tryz.ntmps170
  go_wp2
  go_ret
  exact ⟨rfl, below1 w _⟩
theorem tmu5 : Musts 170 (tkd 5) := by
  intro k u w hk
  rcases hk.cases with ⟨h0, rfl⟩ | ⟨rfl, a, rfl⟩ | ⟨rfl, a, rfl⟩ | ⟨rfl, a, rfl⟩ | ⟨rfl, a, rfl⟩ | ⟨rfl, a, rfl⟩ | ⟨rfl, a, rfl⟩ | ⟨rfl, a, rfl⟩ | ⟨rfl, a, rfl⟩ | ⟨rfl, a, b, rfl, ha, hb⟩ | ⟨rfl, c, a, rfl⟩ | ⟨rfl, a, rfl⟩ | ⟨rfl, rfl⟩ | ⟨rfl, rfl⟩
  · obtain ⟨o, ho⟩ := must_nil (x := 20) Tryz.underlying143
    exact Musts.no (tkd_no h0 5) (tno5 _ w o ho)
  · obtain ⟨o, ho⟩ := must_ty (t := 140) (x := 20) (v := _) Tryz.underlying143 (fun m h => by cases h) (by decide)
    exact Musts.no (by decide) (tno5 _ w o ho)
  · obtain ⟨o, ho⟩ := must_ty (t := 141) (x := 20) (v := _) Tryz.underlying143 (fun m h => by cases h) (by decide)
    exact Musts.no (by decide) (tno5 _ w o ho)
  · obtain ⟨o, ho⟩ := must_ty (t := 142) (x := 20) (v := _) Tryz.underlying143 (fun m h => by cases h) (by decide)
    exact Musts.no (by decide) (tno5 _ w o ho)
  · obtain ⟨o, ho⟩ := must_ty (t := 101) (x := 20) (v := _) Tryz.underlying143 (fun m h => by cases h) (by decide)
    exact Musts.no (by decide) (tno5 _ w o ho)
  · exact Musts.yes (by decide) (tyes5 _ w)
  · obtain ⟨o, ho⟩ := must_ty (t := 144) (x := 20) (v := _) Tryz.underlying143 (fun m h => by cases h) (by decide)
    exact Musts.no (by decide) (tno5 _ w o ho)
  · obtain ⟨o, ho⟩ := must_ty (t := 147) (x := 20) (v := _) Tryz.underlying143 (fun m h => by cases h) (by decide)
    exact Musts.no (by decide) (tno5 _ w o ho)
  · obtain ⟨o, ho⟩ := must_ty (t := 149) (x := 20) (v := _) Tryz.underlying143 (fun m h => by cases h) (by decide)
    exact Musts.no (by decide) (tno5 _ w o ho)
  · obtain ⟨o, ho⟩ := must_ty (t := 152) (x := 20) (v := _) Tryz.underlying143 (fun m h => by cases h) (by decide)
    exact Musts.no (by decide) (tno5 _ w o ho)
  · obtain ⟨o, ho⟩ := must_ty (t := 154) (x := 20) (v := _) Tryz.underlying143 (fun m h => by cases h) (by decide)
    exact Musts.no (by decide) (tno5 _ w o ho)
  · obtain ⟨o, ho⟩ := must_ty (t := 155) (x := 20) (v := _) Tryz.underlying143 (fun m h => by cases h) (by decide)
    exact Musts.no (by decide) (tno5 _ w o ho)
  · obtain ⟨o, ho⟩ := must_ty (t := 155) (x := 20) (v := _) Tryz.underlying143 (fun m h => by cases h) (by decide)
    exact Musts.no (by decide) (tno5 _ w o ho)
  · obtain ⟨o, ho⟩ := must_ty (t := 157) (x := 20) (v := _) Tryz.underlying143 (fun m h => by cases h) (by decide)
    exact Musts.no (by decide) (tno5 _ w o ho)

set_option maxRecDepth 100000 in
set_option maxHeartbeats 1000000 in
theorem tno6 (u : Value) (w : World) (o : Obj) (h : ∀ w : World, (Instr.typeAssert u 20 144 false).run Tryz.prog w = .halt (.panic (.iface 15 (.pointer (some ⟨w.heap.size, 0, none⟩)))) (w.alloc o)) : Calls Tryz.prog 172 #[.agg #[], u] w fun e w' => Pan w w' e := by
  go_enter Tryz.func172, Tryz.ntmps172
  go_wp2
  exact ⟨rfl, _, rfl, below2 w _ _⟩
set_option maxRecDepth 100000 in
set_option maxHeartbeats 1000000 in
theorem tyes6 (z : Value) (w : World) : Calls Tryz.prog 172 #[.agg #[], .iface 144 (z)] w fun e w' => e = .returned (.iface 144 (z)) ∧ Below w.heap.size w w' := by
  have h : ∀ w : World, (Instr.typeAssert (.iface 144 (z)) 20 144 false).run Tryz.prog w = .ok (z) w := fun w => must_is Tryz.underlying144 (fun m h => by cases h) w
  go_enter Tryz.func172, Tryz.ntmps172
  go_wp2
  go_ret
  exact ⟨rfl, below1 w _⟩
theorem tmu6 : Musts 172 (tkd 6) := by
  intro k u w hk
  rcases hk.cases with ⟨h0, rfl⟩ | ⟨rfl, a, rfl⟩ | ⟨rfl, a, rfl⟩ | ⟨rfl, a, rfl⟩ | ⟨rfl, a, rfl⟩ | ⟨rfl, a, rfl⟩ | ⟨rfl, a, rfl⟩ | ⟨rfl, a, rfl⟩ | ⟨rfl, a, rfl⟩ | ⟨rfl, a, b, rfl, ha, hb⟩ | ⟨rfl, c, a, rfl⟩ | ⟨rfl, a, rfl⟩ | ⟨rfl, rfl⟩ | ⟨rfl, rfl⟩
  · obtain ⟨o, ho⟩ := must_nil (x := 20) Tryz.underlying144
    exact Musts.no (tkd_no h0 6) (tno6 _ w o ho)
  · obtain ⟨o, ho⟩ := must_ty (t := 140) (x := 20) (v := _) Tryz.underlying144 (fun m h => by cases h) (by decide)
    exact Musts.no (by decide) (tno6 _ w o ho)
  · obtain ⟨o, ho⟩ := must_ty (t := 141) (x := 20) (v := _) Tryz.underlying144 (fun m h => by cases h) (by decide)
    exact Musts.no (by decide) (tno6 _ w o ho)
  · obtain ⟨o, ho⟩ := must_ty (t := 142) (x := 20) (v := _) Tryz.underlying144 (fun m h => by cases h) (by decide)
    exact Musts.no (by decide) (tno6 _ w o ho)
  · obtain ⟨o, ho⟩ := must_ty (t := 101) (x := 20) (v := _) Tryz.underlying144 (fun m h => by cases h) (by decide)
    exact Musts.no (by decide) (tno6 _ w o ho)
  · obtain ⟨o, ho⟩ := must_ty (t := 143) (x := 20) (v := _) Tryz.underlying144 (fun m h => by cases h) (by decide)
    exact Musts.no (by decide) (tno6 _ w o ho)
  · exact Musts.yes (by decide) (tyes6 _ w)
  · obtain ⟨o, ho⟩ := must_ty (t := 147) (x := 20) (v := _) Tryz.underlying144 (fun m h => by cases h) (by decide)
    exact Musts.no (by decide) (tno6 _ w o ho)
  · obtain ⟨o, ho⟩ := must_ty (t := 149) (x := 20) (v := _) Tryz.underlying144 (fun m h => by cases h) (by decide)
    exact Musts.no (by decide) (tno6 _ w o ho)
  · obtain ⟨o, ho⟩ := must_ty (t := 152) (x := 20) (v := _) Tryz.underlying144 (fun m h => by cases h) (by decide)
    exact Musts.no (by decide) (tno6 _ w o ho)
  · obtain ⟨o, ho⟩ := must_ty (t := 154) (x := 20) (v := _) Tryz.underlying144 (fun m h => by cases h) (by decide)
    exact Musts.no (by decide) (tno6 _ w o ho)
  · obtain ⟨o, ho⟩ := must_ty (t := 155) (x := 20) (v := _) Tryz.underlying144 (fun m h => by cases h) (by decide)
    exact Musts.no (by decide) (tno6 _ w o ho)
  · obtain ⟨o, ho⟩ := must_ty (t := 155) (x := 20) (v := _) Tryz.underlying144 (fun m h => by cases h) (by decide)
    exact Musts.no (by decide) (tno6 _ w o ho)
  · obtain ⟨o, ho⟩ := must_ty (t := 157) (x := 20) (v := _) Tryz.underlying144 (fun m h => by cases h) (by decide)
    exact Musts.no (by decide) (tno6 _ w o ho)

set_option maxRecDepth 100000 in
set_option maxHeartbeats 1000000 in
theorem tno7 (u : Value) (w : World) (o : Obj) (h : ∀ w : World, (Instr.typeAssert u 20 147 false).run Tryz.prog w = .halt (.panic (.iface 15 (.pointer (some ⟨w.heap.size, 0, none⟩)))) (w.alloc o)) : Calls Tryz.prog 174 #[.agg #[], u] w fun e w' => Pan w w' e := by
  go_enter Tryz.func174, Tryz.ntmps174
  go_wp2
  exact ⟨rfl, _, rfl, below2 w _ _⟩
set_option maxRecDepth 100000 in
set_option maxHeartbeats 1000000 in
theorem tyes7 (z : Value) (w : World) : Calls Tryz.prog 174 #[.agg #[], .iface 147 (z)] w fun e w' => e = .returned (.iface 147 (z)) ∧ Below w.heap.size w w' := by
  have h : ∀ w : World, (Instr.typeAssert (.iface 147 (z)) 20 147 false).run Tryz.prog w = .ok (z) w := fun w => must_is Tryz.underlying147 (fun m h => by cases h) w
  go_enter Tryz.func174, Tryz.ntmps174
  go_wp2
  go_ret
  exact ⟨rfl, below1 w _⟩
theorem tmu7 : Musts 174 (tkd 7) := by
  intro k u w hk
  rcases hk.cases with ⟨h0, rfl⟩ | ⟨rfl, a, rfl⟩ | ⟨rfl, a, rfl⟩ | ⟨rfl, a, rfl⟩ | ⟨rfl, a, rfl⟩ | ⟨rfl, a, rfl⟩ | ⟨rfl, a, rfl⟩ | ⟨rfl, a, rfl⟩ | ⟨rfl, a, rfl⟩ | ⟨rfl, a, b, rfl, ha, hb⟩ | ⟨rfl, c, a, rfl⟩ | ⟨rfl, a, rfl⟩ | ⟨rfl, rfl⟩ | ⟨rfl, rfl⟩
  · obtain ⟨o, ho⟩ := must_nil (x := 20) Tryz.underlying147
    exact Musts.no (tkd_no h0 7) (tno7 _ w o ho)
  · obtain ⟨o, ho⟩ := must_ty (t := 140) (x := 20) (v := _) Tryz.underlying147 (fun m h => by cases h) (by decide)
    exact Musts.no (by decide) (tno7 _ w o ho)
  · obtain ⟨o, ho⟩ := must_ty (t := 141) (x := 20) (v := _) Tryz.underlying147 (fun m h => by cases h) (by decide)
    exact Musts.no (by decide) (tno7 _ w o ho)
  · obtain ⟨o, ho⟩ := must_ty (t := 142) (x := 20) (v := _) Tryz.underlying147 (fun m h => by cases h) (by decide)
    exact Musts.no (by decide) (tno7 _ w o ho)
  · obtain ⟨o, ho⟩ := must_ty (t := 101) (x := 20) (v := _) Tryz.underlying147 (fun m h => by cases h) (by decide)
    exact Musts.no (by decide) (tno7 _ w o ho)
  · obtain ⟨o, ho⟩ := must_ty (t := 143) (x := 20) (v := _) Tryz.underlying147 (fun m h => by cases h) (by decide)
    exact Musts.no (by decide) (tno7 _ w o ho)
  · obtain ⟨o, ho⟩ := must_ty (t := 144) (x := 20) (v := _) Tryz.underlying147 (fun m h => by cases h) (by decide)
    exact Musts.no (by decide) (tno7 _ w o ho)
  · exact Musts.yes (by decide) (tyes7 _ w)
  · obtain ⟨o, ho⟩ := must_ty (t := 149) (x := 20) (v := _) Tryz.underlying147 (fun m h => by cases h) (by decide)
    exact Musts.no (by decide) (tno7 _ w o ho)
  · obtain ⟨o, ho⟩ := must_ty (t := 152) (x := 20) (v := _) Tryz.underlying147 (fun m h => by cases h) (by decide)
    exact Musts.no (by decide) (tno7 _ w o ho)
  · obtain ⟨o, ho⟩ := must_ty (t := 154) (x := 20) (v := _) Tryz.underlying147 (fun m h => by cases h) (by decide)
    exact Musts.no (by decide) (tno7 _ w o ho)
  · obtain ⟨o, ho⟩ := must_ty (t := 155) (x := 20) (v := _) Tryz.underlying147 (fun m h => by cases h) (by decide)
    exact Musts.no (by decide) (tno7 _ w o ho)
  · obtain ⟨o, ho⟩ := must_ty (t := 155) (x := 20) (v := _) Tryz.underlying147 (fun m h => by cases h) (by decide)
    exact Musts.no (by decide) (tno7 _ w o ho)
  · obtain ⟨o, ho⟩ := must_ty (t := 157) (x := 20) (v := _) Tryz.underlying147 (fun m h => by cases h) (by decide)
    exact Musts.no (by decide) (tno7 _ w o ho)

set_option maxRecDepth 100000 in
set_option maxHeartbeats 1000000 in
theorem tno8 (u : Value) (w : World) (o : Obj) (h : ∀ w : World, (Instr.typeAssert u 20 149 false).run Tryz.prog w = .halt (.panic (.iface 15 (.pointer (some ⟨w.heap.size, 0, none⟩)))) (w.alloc o)) : Calls Tryz.prog 176 #[.agg #[], u] w fun e w' => Pan w w' e := by
  go_enter Tryz.func176, Tryz.ntmps176
  go_wp2
  exact ⟨rfl, _, rfl, below2 w _ _⟩
set_option maxRecDepth 100000 in
set_option maxHeartbeats 1000000 in
theorem tyes8 (z : Value) (w : World) : Calls Tryz.prog 176 #[.agg #[], .iface 149 (z)] w fun e w' => e = .returned (.iface 149 (z)) ∧ Below w.heap.size w w' := by
  have h : ∀ w : World, (Instr.typeAssert (.iface 149 (z)) 20 149 false).run Tryz.prog w = .ok (z) w := fun w => must_is Tryz.underlying149 (fun m h => by cases h) w
  go_enter Tryz.func176, Tryz.ntmps176
  go_wp2
  go_ret
  exact ⟨rfl, below1 w _⟩
theorem tmu8 : Musts 176 (tkd 8) := by
  intro k u w hk
  rcases hk.cases with ⟨h0, rfl⟩ | ⟨rfl, a, rfl⟩ | ⟨rfl, a, rfl⟩ | ⟨rfl, a, rfl⟩ | ⟨rfl, a, rfl⟩ | ⟨rfl, a, rfl⟩ | ⟨rfl, a, rfl⟩ | ⟨rfl, a, rfl⟩ | ⟨rfl, a, rfl⟩ | ⟨rfl, a, b, rfl, ha, hb⟩ | ⟨rfl, c, a, rfl⟩ | ⟨rfl, a, rfl⟩ | ⟨rfl, rfl⟩ | ⟨rfl, rfl⟩
  · obtain ⟨o, ho⟩ := must_nil (x := 20) Tryz.underlying149
    exact Musts.no (tkd_no h0 8) (tno8 _ w o ho)
  · obtain ⟨o, ho⟩ := must_ty (t := 140) (x := 20) (v := _) Tryz.underlying149 (fun m h => by cases h) (by decide)
    exact Musts.no (by decide) (tno8 _ w o ho)
  · obtain ⟨o, ho⟩ := must_ty (t := 141) (x := 20) (v := _) Tryz.underlying149 (fun m h => by cases h) (by decide)
    exact Musts.no (by decide) (tno8 _ w o ho)
  · obtain ⟨o, ho⟩ := must_ty (t := 142) (x := 20) (v := _) Tryz.underlying149 (fun m h => by cases h) (by decide)
    exact Musts.no (by decide) (tno8 _ w o ho)
  · obtain ⟨o, ho⟩ := must_ty (t := 101) (x := 20) (v := _) Tryz.underlying149 (fun m h => by cases h) (by decide)
    exact Musts.no (by decide) (tno8 _ w o ho)
  · obtain ⟨o, ho⟩ := must_ty (t := 143) (x := 20) (v := _) Tryz.underlying149 (fun m h => by cases h) (by decide)
    exact Musts.no (by decide) (tno8 _ w o ho)
  · obtain ⟨o, ho⟩ := must_ty (t := 144) (x := 20) (v := _) Tryz.underlying149 (fun m h => by cases h) (by decide)
    exact Musts.no (by decide) (tno8 _ w o ho)
  · obtain ⟨o, ho⟩ := must_ty (t := 147) (x := 20) (v := _) Tryz.underlying149 (fun m h => by cases h) (by decide)
    exact Musts.no (by decide) (tno8 _ w o ho)
  · exact Musts.yes (by decide) (tyes8 _ w)
  · obtain ⟨o, ho⟩ := must_ty (t := 152) (x := 20) (v := _) Tryz.underlying149 (fun m h => by cases h) (by decide)
    exact Musts.no (by decide) (tno8 _ w o ho)
  · obtain ⟨o, ho⟩ := must_ty (t := 154) (x := 20) (v := _) Tryz.underlying149 (fun m h => by cases h) (by decide)
    exact Musts.no (by decide) (tno8 _ w o ho)
  · obtain ⟨o, ho⟩ := must_ty (t := 155) (x := 20) (v := _) Tryz.underlying149 (fun m h => by cases h) (by decide)
    exact Musts.no (by decide) (tno8 _ w o ho)
  · obtain ⟨o, ho⟩ := must_ty (t := 155) (x := 20) (v := _) Tryz.underlying149 (fun m h => by cases h) (by decide)
    exact Musts.no (by decide) (tno8 _ w o ho)
  · obtain ⟨o, ho⟩ := must_ty (t := 157) (x := 20) (v := _) Tryz.underlying149 (fun m h => by cases h) (by decide)
    exact Musts.no (by decide) (tno8 _ w o ho)

set_option maxRecDepth 100000 in
set_option maxHeartbeats 1000000 in
theorem tno9 (u : Value) (w : World) (o : Obj) (h : ∀ w : World, (Instr.typeAssert u 20 152 false).run Tryz.prog w = .halt (.panic (.iface 15 (.pointer (some ⟨w.heap.size, 0, none⟩)))) (w.alloc o)) : Calls Tryz.prog 178 #[.agg #[], u] w fun e w' => Pan w w' e := by
  go_enter Tryz.func178, Tryz.ntmps178
  go_wp2
  exact ⟨rfl, _, rfl, below2 w _ _⟩
set_option maxRecDepth 100000 in
set_option maxHeartbeats 1000000 in
theorem tyes9 (a b : Value) (w : World) : Calls Tryz.prog 178 #[.agg #[], .iface 152 (.agg #[a, b])] w fun e w' => e = .returned (.iface 152 (.agg #[a, b])) ∧ Below w.heap.size w w' := by
  have h : ∀ w : World, (Instr.typeAssert (.iface 152 (.agg #[a, b])) 20 152 false).run Tryz.prog w = .ok (.agg #[a, b]) w := fun w => must_is Tryz.underlying152 (fun m h => by cases h) w
  go_enter Tryz.func178, Tryz.ntmps178
  go_wp2
  go_ret
  exact ⟨rfl, below1 w _⟩
theorem tmu9 : Musts 178 (tkd 9) := by
  intro k u w hk
  rcases hk.cases with ⟨h0, rfl⟩ | ⟨rfl, a, rfl⟩ | ⟨rfl, a, rfl⟩ | ⟨rfl, a, rfl⟩ | ⟨rfl, a, rfl⟩ | ⟨rfl, a, rfl⟩ | ⟨rfl, a, rfl⟩ | ⟨rfl, a, rfl⟩ | ⟨rfl, a, rfl⟩ | ⟨rfl, a, b, rfl, ha, hb⟩ | ⟨rfl, c, a, rfl⟩ | ⟨rfl, a, rfl⟩ | ⟨rfl, rfl⟩ | ⟨rfl, rfl⟩
  · obtain ⟨o, ho⟩ := must_nil (x := 20) Tryz.underlying152
    exact Musts.no (tkd_no h0 9) (tno9 _ w o ho)
  · obtain ⟨o, ho⟩ := must_ty (t := 140) (x := 20) (v := _) Tryz.underlying152 (fun m h => by cases h) (by decide)
    exact Musts.no (by decide) (tno9 _ w o ho)
  · obtain ⟨o, ho⟩ := must_ty (t := 141) (x := 20) (v := _) Tryz.underlying152 (fun m h => by cases h) (by decide)
    exact Musts.no (by decide) (tno9 _ w o ho)
  · obtain ⟨o, ho⟩ := must_ty (t := 142) (x := 20) (v := _) Tryz.underlying152 (fun m h => by cases h) (by decide)
    exact Musts.no (by decide) (tno9 _ w o ho)
  · obtain ⟨o, ho⟩ := must_ty (t := 101) (x := 20) (v := _) Tryz.underlying152 (fun m h => by cases h) (by decide)
    exact Musts.no (by decide) (tno9 _ w o ho)
  · obtain ⟨o, ho⟩ := must_ty (t := 143) (x := 20) (v := _) Tryz.underlying152 (fun m h => by cases h) (by decide)
    exact Musts.no (by decide) (tno9 _ w o ho)
  · obtain ⟨o, ho⟩ := must_ty (t := 144) (x := 20) (v := _) Tryz.underlying152 (fun m h => by cases h) (by decide)
    exact Musts.no (by decide) (tno9 _ w o ho)
  · obtain ⟨o, ho⟩ := must_ty (t := 147) (x := 20) (v := _) Tryz.underlying152 (fun m h => by cases h) (by decide)
    exact Musts.no (by decide) (tno9 _ w o ho)
  · obtain ⟨o, ho⟩ := must_ty (t := 149) (x := 20) (v := _) Tryz.underlying152 (fun m h => by cases h) (by decide)
    exact Musts.no (by decide) (tno9 _ w o ho)
  · exact Musts.yes (by decide) (tyes9 a b w)
  · obtain ⟨o, ho⟩ := must_ty (t := 154) (x := 20) (v := _) Tryz.underlying152 (fun m h => by cases h) (by decide)
    exact Musts.no (by decide) (tno9 _ w o ho)
  · obtain ⟨o, ho⟩ := must_ty (t := 155) (x := 20) (v := _) Tryz.underlying152 (fun m h => by cases h) (by decide)
    exact Musts.no (by decide) (tno9 _ w o ho)
  · obtain ⟨o, ho⟩ := must_ty (t := 155) (x := 20) (v := _) Tryz.underlying152 (fun m h => by cases h) (by decide)
    exact Musts.no (by decide) (tno9 _ w o ho)
  · obtain ⟨o, ho⟩ := must_ty (t := 157) (x := 20) (v := _) Tryz.underlying152 (fun m h => by cases h) (by decide)
    exact Musts.no (by decide) (tno9 _ w o ho)

set_option maxRecDepth 100000 in
set_option maxHeartbeats 1000000 in
theorem tno10 (u : Value) (w : World) (o : Obj) (h : ∀ w : World, (Instr.typeAssert u 20 154 false).run Tryz.prog w = .halt (.panic (.iface 15 (.pointer (some ⟨w.heap.size, 0, none⟩)))) (w.alloc o)) : Calls Tryz.prog 180 #[.agg #[], u] w fun e w' => Pan w w' e := by
  go_enter Tryz.func180, Tryz.ntmps180
  go_wp2
  exact ⟨rfl, _, rfl, below2 w _ _⟩
set_option maxRecDepth 100000 in
set_option maxHeartbeats 1000000 in
theorem tyes10 (c : Int) (s : ByteArray) (w : World) : Calls Tryz.prog 180 #[.agg #[], .iface 154 (.agg #[.int .i64 c, .string s])] w fun e w' => e = .returned (.iface 154 (.agg #[.int .i64 c, .string s])) ∧ Below w.heap.size w w' := by
  have h : ∀ w : World, (Instr.typeAssert (.iface 154 (.agg #[.int .i64 c, .string s])) 20 154 false).run Tryz.prog w = .ok (.agg #[.int .i64 c, .string s]) w := fun w => must_is Tryz.underlying154 (fun m h => by cases h) w
  go_enter Tryz.func180, Tryz.ntmps180
  go_wp2
  go_ret
  exact ⟨rfl, below1 w _⟩
theorem tmu10 : Musts 180 (tkd 10) := by
  intro k u w hk
  rcases hk.cases with ⟨h0, rfl⟩ | ⟨rfl, a, rfl⟩ | ⟨rfl, a, rfl⟩ | ⟨rfl, a, rfl⟩ | ⟨rfl, a, rfl⟩ | ⟨rfl, a, rfl⟩ | ⟨rfl, a, rfl⟩ | ⟨rfl, a, rfl⟩ | ⟨rfl, a, rfl⟩ | ⟨rfl, a, b, rfl, ha, hb⟩ | ⟨rfl, c, a, rfl⟩ | ⟨rfl, a, rfl⟩ | ⟨rfl, rfl⟩ | ⟨rfl, rfl⟩
  · obtain ⟨o, ho⟩ := must_nil (x := 20) Tryz.underlying154
    exact Musts.no (tkd_no h0 10) (tno10 _ w o ho)
  · obtain ⟨o, ho⟩ := must_ty (t := 140) (x := 20) (v := _) Tryz.underlying154 (fun m h => by cases h) (by decide)
    exact Musts.no (by decide) (tno10 _ w o ho)
  · obtain ⟨o, ho⟩ := must_ty (t := 141) (x := 20) (v := _) Tryz.underlying154 (fun m h => by cases h) (by decide)
    exact Musts.no (by decide) (tno10 _ w o ho)
  · obtain ⟨o, ho⟩ := must_ty (t := 142) (x := 20) (v := _) Tryz.underlying154 (fun m h => by cases h) (by decide)
    exact Musts.no (by decide) (tno10 _ w o ho)
  · obtain ⟨o, ho⟩ := must_ty (t := 101) (x := 20) (v := _) Tryz.underlying154 (fun m h => by cases h) (by decide)
    exact Musts.no (by decide) (tno10 _ w o ho)
  · obtain ⟨o, ho⟩ := must_ty (t := 143) (x := 20) (v := _) Tryz.underlying154 (fun m h => by cases h) (by decide)
    exact Musts.no (by decide) (tno10 _ w o ho)
  · obtain ⟨o, ho⟩ := must_ty (t := 144) (x := 20) (v := _) Tryz.underlying154 (fun m h => by cases h) (by decide)
    exact Musts.no (by decide) (tno10 _ w o ho)
  · obtain ⟨o, ho⟩ := must_ty (t := 147) (x := 20) (v := _) Tryz.underlying154 (fun m h => by cases h) (by decide)
    exact Musts.no (by decide) (tno10 _ w o ho)
  · obtain ⟨o, ho⟩ := must_ty (t := 149) (x := 20) (v := _) Tryz.underlying154 (fun m h => by cases h) (by decide)
    exact Musts.no (by decide) (tno10 _ w o ho)
  · obtain ⟨o, ho⟩ := must_ty (t := 152) (x := 20) (v := _) Tryz.underlying154 (fun m h => by cases h) (by decide)
    exact Musts.no (by decide) (tno10 _ w o ho)
  · exact Musts.yes (by decide) (tyes10 c a w)
  · obtain ⟨o, ho⟩ := must_ty (t := 155) (x := 20) (v := _) Tryz.underlying154 (fun m h => by cases h) (by decide)
    exact Musts.no (by decide) (tno10 _ w o ho)
  · obtain ⟨o, ho⟩ := must_ty (t := 155) (x := 20) (v := _) Tryz.underlying154 (fun m h => by cases h) (by decide)
    exact Musts.no (by decide) (tno10 _ w o ho)
  · obtain ⟨o, ho⟩ := must_ty (t := 157) (x := 20) (v := _) Tryz.underlying154 (fun m h => by cases h) (by decide)
    exact Musts.no (by decide) (tno10 _ w o ho)

set_option maxRecDepth 100000 in
set_option maxHeartbeats 1000000 in
theorem tno11 (u : Value) (w : World) (o : Obj) (h : ∀ w : World, (Instr.typeAssert u 20 155 false).run Tryz.prog w = .halt (.panic (.iface 15 (.pointer (some ⟨w.heap.size, 0, none⟩)))) (w.alloc o)) : Calls Tryz.prog 182 #[.agg #[], u] w fun e w' => Pan w w' e := by
  go_enter Tryz.func182, Tryz.ntmps182
  go_wp2
  exact ⟨rfl, _, rfl, below2 w _ _⟩
set_option maxRecDepth 100000 in
set_option maxHeartbeats 1000000 in
theorem tyes11 (z : Value) (w : World) : Calls Tryz.prog 182 #[.agg #[], .iface 155 (z)] w fun e w' => e = .returned (.iface 155 (z)) ∧ Below w.heap.size w w' := by
  have h : ∀ w : World, (Instr.typeAssert (.iface 155 (z)) 20 155 false).run Tryz.prog w = .ok (z) w := fun w => must_is Tryz.underlying155 (fun m h => by cases h) w
  go_enter Tryz.func182, Tryz.ntmps182
  go_wp2
  go_ret
  exact ⟨rfl, below1 w _⟩
theorem tmu11 : Musts 182 (tkd 11) := by
  intro k u w hk
  rcases hk.cases with ⟨h0, rfl⟩ | ⟨rfl, a, rfl⟩ | ⟨rfl, a, rfl⟩ | ⟨rfl, a, rfl⟩ | ⟨rfl, a, rfl⟩ | ⟨rfl, a, rfl⟩ | ⟨rfl, a, rfl⟩ | ⟨rfl, a, rfl⟩ | ⟨rfl, a, rfl⟩ | ⟨rfl, a, b, rfl, ha, hb⟩ | ⟨rfl, c, a, rfl⟩ | ⟨rfl, a, rfl⟩ | ⟨rfl, rfl⟩ | ⟨rfl, rfl⟩
  · obtain ⟨o, ho⟩ := must_nil (x := 20) Tryz.underlying155
    exact Musts.no (tkd_no h0 11) (tno11 _ w o ho)
  · obtain ⟨o, ho⟩ := must_ty (t := 140) (x := 20) (v := _) Tryz.underlying155 (fun m h => by cases h) (by decide)
    exact Musts.no (by decide) (tno11 _ w o ho)
  · obtain ⟨o, ho⟩ := must_ty (t := 141) (x := 20) (v := _) Tryz.underlying155 (fun m h => by cases h) (by decide)
    exact Musts.no (by decide) (tno11 _ w o ho)
  · obtain ⟨o, ho⟩ := must_ty (t := 142) (x := 20) (v := _) Tryz.underlying155 (fun m h => by cases h) (by decide)
    exact Musts.no (by decide) (tno11 _ w o ho)
  · obtain ⟨o, ho⟩ := must_ty (t := 101) (x := 20) (v := _) Tryz.underlying155 (fun m h => by cases h) (by decide)
    exact Musts.no (by decide) (tno11 _ w o ho)
  · obtain ⟨o, ho⟩ := must_ty (t := 143) (x := 20) (v := _) Tryz.underlying155 (fun m h => by cases h) (by decide)
    exact Musts.no (by decide) (tno11 _ w o ho)
  · obtain ⟨o, ho⟩ := must_ty (t := 144) (x := 20) (v := _) Tryz.underlying155 (fun m h => by cases h) (by decide)
    exact Musts.no (by decide) (tno11 _ w o ho)
  · obtain ⟨o, ho⟩ := must_ty (t := 147) (x := 20) (v := _) Tryz.underlying155 (fun m h => by cases h) (by decide)
    exact Musts.no (by decide) (tno11 _ w o ho)
  · obtain ⟨o, ho⟩ := must_ty (t := 149) (x := 20) (v := _) Tryz.underlying155 (fun m h => by cases h) (by decide)
    exact Musts.no (by decide) (tno11 _ w o ho)
  · obtain ⟨o, ho⟩ := must_ty (t := 152) (x := 20) (v := _) Tryz.underlying155 (fun m h => by cases h) (by decide)
    exact Musts.no (by decide) (tno11 _ w o ho)
  · obtain ⟨o, ho⟩ := must_ty (t := 154) (x := 20) (v := _) Tryz.underlying155 (fun m h => by cases h) (by decide)
    exact Musts.no (by decide) (tno11 _ w o ho)
  · exact Musts.yes (by decide) (tyes11 _ w)
  · exact Musts.yes (by decide) (tyes11 _ w)
  · obtain ⟨o, ho⟩ := must_ty (t := 157) (x := 20) (v := _) Tryz.underlying155 (fun m h => by cases h) (by decide)
    exact Musts.no (by decide) (tno11 _ w o ho)

set_option maxRecDepth 100000 in
set_option maxHeartbeats 1000000 in
theorem tno13 (u : Value) (w : World) (o : Obj) (h : ∀ w : World, (Instr.typeAssert u 20 157 false).run Tryz.prog w = .halt (.panic (.iface 15 (.pointer (some ⟨w.heap.size, 0, none⟩)))) (w.alloc o)) : Calls Tryz.prog 187 #[.agg #[], u] w fun e w' => Pan w w' e := by
  go_enter Tryz.func187, Tryz.ntmps187
  go_wp2
  exact ⟨rfl, _, rfl, below2 w _ _⟩
set_option maxRecDepth 100000 in
set_option maxHeartbeats 1000000 in
theorem tyes13 (w : World) : Calls Tryz.prog 187 #[.agg #[], .iface 157 (.agg #[])] w fun e w' => e = .returned (.iface 157 (.agg #[])) ∧ Below w.heap.size w w' := by
  have h : ∀ w : World, (Instr.typeAssert (.iface 157 (.agg #[])) 20 157 false).run Tryz.prog w = .ok (.agg #[]) w := fun w => must_is Tryz.underlying157 (fun m h => by cases h) w
  go_enter Tryz.func187, Tryz.ntmps187
  go_wp2
  go_ret
  exact ⟨rfl, below1 w _⟩
theorem tmu13 : Musts 187 (tkd 13) := by
  intro k u w hk
  rcases hk.cases with ⟨h0, rfl⟩ | ⟨rfl, a, rfl⟩ | ⟨rfl, a, rfl⟩ | ⟨rfl, a, rfl⟩ | ⟨rfl, a, rfl⟩ | ⟨rfl, a, rfl⟩ | ⟨rfl, a, rfl⟩ | ⟨rfl, a, rfl⟩ | ⟨rfl, a, rfl⟩ | ⟨rfl, a, b, rfl, ha, hb⟩ | ⟨rfl, c, a, rfl⟩ | ⟨rfl, a, rfl⟩ | ⟨rfl, rfl⟩ | ⟨rfl, rfl⟩
  · obtain ⟨o, ho⟩ := must_nil (x := 20) Tryz.underlying157
    exact Musts.no (tkd_no h0 13) (tno13 _ w o ho)
  · obtain ⟨o, ho⟩ := must_ty (t := 140) (x := 20) (v := _) Tryz.underlying157 (fun m h => by cases h) (by decide)
    exact Musts.no (by decide) (tno13 _ w o ho)
  · obtain ⟨o, ho⟩ := must_ty (t := 141) (x := 20) (v := _) Tryz.underlying157 (fun m h => by cases h) (by decide)
    exact Musts.no (by decide) (tno13 _ w o ho)
  · obtain ⟨o, ho⟩ := must_ty (t := 142) (x := 20) (v := _) Tryz.underlying157 (fun m h => by cases h) (by decide)
    exact Musts.no (by decide) (tno13 _ w o ho)
  · obtain ⟨o, ho⟩ := must_ty (t := 101) (x := 20) (v := _) Tryz.underlying157 (fun m h => by cases h) (by decide)
    exact Musts.no (by decide) (tno13 _ w o ho)
  · obtain ⟨o, ho⟩ := must_ty (t := 143) (x := 20) (v := _) Tryz.underlying157 (fun m h => by cases h) (by decide)
    exact Musts.no (by decide) (tno13 _ w o ho)
  · obtain ⟨o, ho⟩ := must_ty (t := 144) (x := 20) (v := _) Tryz.underlying157 (fun m h => by cases h) (by decide)
    exact Musts.no (by decide) (tno13 _ w o ho)
  · obtain ⟨o, ho⟩ := must_ty (t := 147) (x := 20) (v := _) Tryz.underlying157 (fun m h => by cases h) (by decide)
    exact Musts.no (by decide) (tno13 _ w o ho)
  · obtain ⟨o, ho⟩ := must_ty (t := 149) (x := 20) (v := _) Tryz.underlying157 (fun m h => by cases h) (by decide)
    exact Musts.no (by decide) (tno13 _ w o ho)
  · obtain ⟨o, ho⟩ := must_ty (t := 152) (x := 20) (v := _) Tryz.underlying157 (fun m h => by cases h) (by decide)
    exact Musts.no (by decide) (tno13 _ w o ho)
  · obtain ⟨o, ho⟩ := must_ty (t := 154) (x := 20) (v := _) Tryz.underlying157 (fun m h => by cases h) (by decide)
    exact Musts.no (by decide) (tno13 _ w o ho)
  · obtain ⟨o, ho⟩ := must_ty (t := 155) (x := 20) (v := _) Tryz.underlying157 (fun m h => by cases h) (by decide)
    exact Musts.no (by decide) (tno13 _ w o ho)
  · obtain ⟨o, ho⟩ := must_ty (t := 155) (x := 20) (v := _) Tryz.underlying157 (fun m h => by cases h) (by decide)
    exact Musts.no (by decide) (tno13 _ w o ho)
  · exact Musts.yes (by decide) (tyes13  w)

set_option maxRecDepth 100000 in
set_option maxHeartbeats 1000000 in
theorem tmu12 : Musts 184 (tkd 12) := by
  intro k u w hk
  have HA : Hid (∀ w : World, Calls Tryz.prog 183 #[.agg #[], u] w fun e w' => e = .returned (.bool (k == 12)) ∧ Below w.heap.size w w') := fun w => type12_asks k u w hk
  have HN := Lib.hid (fun w => (fmuN k u w hk).2 rfl)
  have hp : tkd 12 k = (k == 12) := by unfold tkd; simp
  constructor
  · intro h
    rw [hp] at h
    rw [h] at HA
    go_enter Tryz.func184, Tryz.ntmps184
    go_wp2_with fail
    refine (HA.out _).mono ?_
    rintro e w1 ⟨rfl, b1⟩
    go_wp2
    go_ret
    exact ⟨rfl, (below1 w _).trans (b1.mono (by simp))⟩
  · intro h
    rw [hp] at h
    rw [h] at HA
    go_enter Tryz.func184, Tryz.ntmps184
    go_wp2_with fail
    refine (HA.out _).mono ?_
    rintro e w1 ⟨rfl, b1⟩
    go_wp2_with fail
    refine (HN.out _).mono ?_
    rintro e w2 ⟨a, rfl, b2⟩
    have B1 := (below1 w (.cells #[] 116)).trans (b1.mono (by simp))
    exact ⟨rfl, a, rfl, B1.trans (b2.mono B1.size)⟩

/-- Every type's question is asked, panicking, by some function. -/
theorem type_musts (m : Int) : ∃ F, MethM (qty m) F ∧ Musts F (tkd m) := by
  by_cases h : m < 1 ∨ 13 < m
  · have hq : qty m = 118 := by
      unfold qty
      rw [if_neg (show ¬ m = 1 by omega)]
      rw [if_neg (show ¬ m = 2 by omega)]
      rw [if_neg (show ¬ m = 3 by omega)]
      rw [if_neg (show ¬ m = 4 by omega)]
      rw [if_neg (show ¬ m = 5 by omega)]
      rw [if_neg (show ¬ m = 6 by omega)]
      rw [if_neg (show ¬ m = 7 by omega)]
      rw [if_neg (show ¬ m = 8 by omega)]
      rw [if_neg (show ¬ m = 9 by omega)]
      rw [if_neg (show ¬ m = 10 by omega)]
      rw [if_neg (show ¬ m = 11 by omega)]
      rw [if_neg (show ¬ m = 12 by omega)]
      rw [if_neg (show ¬ m = 13 by omega)]
    rw [hq]
    refine ⟨185, ⟨fun _ => by kernel_rfl, fun _ _ => by kernel_rfl⟩, ?_⟩
    have : tkd m = fun _ => false := funext fun k => by unfold tkd; rw [decide_eq_false (by omega)]; rfl
    rw [this]
    exact fmuN
  have hk : m = 1 ∨ m = 2 ∨ m = 3 ∨ m = 4 ∨ m = 5 ∨ m = 6 ∨ m = 7 ∨ m = 8 ∨ m = 9 ∨ m = 10 ∨ m = 11 ∨ m = 12 ∨ m = 13 := by omega
  rcases hk with rfl | rfl | rfl | rfl | rfl | rfl | rfl | rfl | rfl | rfl | rfl | rfl | rfl
  · exact ⟨162, ⟨fun _ => by kernel_rfl, fun _ _ => by kernel_rfl⟩, tmu1⟩
  · exact ⟨164, ⟨fun _ => by kernel_rfl, fun _ _ => by kernel_rfl⟩, tmu2⟩
  · exact ⟨166, ⟨fun _ => by kernel_rfl, fun _ _ => by kernel_rfl⟩, tmu3⟩
  · exact ⟨168, ⟨fun _ => by kernel_rfl, fun _ _ => by kernel_rfl⟩, tmu4⟩
  · exact ⟨170, ⟨fun _ => by kernel_rfl, fun _ _ => by kernel_rfl⟩, tmu5⟩
  · exact ⟨172, ⟨fun _ => by kernel_rfl, fun _ _ => by kernel_rfl⟩, tmu6⟩
  · exact ⟨174, ⟨fun _ => by kernel_rfl, fun _ _ => by kernel_rfl⟩, tmu7⟩
  · exact ⟨176, ⟨fun _ => by kernel_rfl, fun _ _ => by kernel_rfl⟩, tmu8⟩
  · exact ⟨178, ⟨fun _ => by kernel_rfl, fun _ _ => by kernel_rfl⟩, tmu9⟩
  · exact ⟨180, ⟨fun _ => by kernel_rfl, fun _ _ => by kernel_rfl⟩, tmu10⟩
  · exact ⟨182, ⟨fun _ => by kernel_rfl, fun _ _ => by kernel_rfl⟩, tmu11⟩
  · exact ⟨184, ⟨fun _ => by kernel_rfl, fun _ _ => by kernel_rfl⟩, tmu12⟩
  · exact ⟨187, ⟨fun _ => by kernel_rfl, fun _ _ => by kernel_rfl⟩, tmu13⟩
end Go.Proofs.YtajagjcfmaggiaaGreatDoor
