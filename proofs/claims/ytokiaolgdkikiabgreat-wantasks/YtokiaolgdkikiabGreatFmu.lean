/- Each interface's question in the form that panics: the value itself, where its kind has the interface, else the panic; no condition. -/
import Derived.Test.YtokiaolgdkikiabGreatTyp
import Derived.Test.YtokiaolgdkikiabGreatMst
namespace Go.Proofs.YtokiaolgdkikiabGreat
open Go.RowKit

/-- The question that function f asks gives the value where p says yes of its kind, and else panics. -/
def Musts (f : Nat) (p : Int → Bool) : Prop := ∀ (k : Int) (u : Value) (w : World), Kd k u → (p k = true → Calls Tryz.prog f #[.agg #[], u] w fun e w' => e = .returned u ∧ Below w.heap.size w w') ∧ (p k = false → Calls Tryz.prog f #[.agg #[], u] w fun e w' => Pan w w' e)
theorem Musts.yes {f : Nat} {p : Int → Bool} {k : Int} {u : Value} {w : World} (hp : p k = true) (h : Calls Tryz.prog f #[.agg #[], u] w fun e w' => e = .returned u ∧ Below w.heap.size w w') : (p k = true → Calls Tryz.prog f #[.agg #[], u] w fun e w' => e = .returned u ∧ Below w.heap.size w w') ∧ (p k = false → Calls Tryz.prog f #[.agg #[], u] w fun e w' => Pan w w' e) := ⟨fun _ => h, fun h' => by rw [hp] at h'; cases h'⟩
theorem Musts.no {f : Nat} {p : Int → Bool} {k : Int} {u : Value} {w : World} (hp : p k = false) (h : Calls Tryz.prog f #[.agg #[], u] w fun e w' => Pan w w' e) : (p k = true → Calls Tryz.prog f #[.agg #[], u] w fun e w' => e = .returned u ∧ Below w.heap.size w w') ∧ (p k = false → Calls Tryz.prog f #[.agg #[], u] w fun e w' => Pan w w' e) := ⟨fun h' => (by rw [hp] at h'; cases h'), fun _ => h⟩

set_option maxRecDepth 100000 in
set_option maxHeartbeats 1000000 in
theorem fno0 (u : Value) (w : World) (o : Obj) (h : ∀ w : World, (Instr.typeAssert u 20 133 false).run Tryz.prog w = .halt (.panic (.iface 15 (.pointer (some ⟨w.heap.size, 0, none⟩)))) (w.alloc o)) : Calls Tryz.prog 76 #[.agg #[], u] w fun e w' => Pan w w' e := by
  go_enter Tryz.func76, Tryz.ntmps76
  go_wp2
  exact ⟨rfl, _, rfl, below2 w _ _⟩
set_option maxRecDepth 100000 in
set_option maxHeartbeats 1000000 in
theorem fyes0 (t : TypeId) (z : Value) (w : World) (h : ∀ w : World, (Instr.typeAssert (.iface t z) 20 133 false).run Tryz.prog w = .ok (.iface t z) w) : Calls Tryz.prog 76 #[.agg #[], .iface t z] w fun e w' => e = .returned (.iface t z) ∧ Below w.heap.size w w' := by
  go_enter Tryz.func76, Tryz.ntmps76
  go_wp2
  go_ret
  exact ⟨rfl, below1 w _⟩
theorem fmu0 : Musts 76 (fun k => impl k 0) := by
  intro k u w hk
  rcases hk.cases with ⟨h0, rfl⟩ | ⟨rfl, a, rfl⟩ | ⟨rfl, a, rfl⟩ | ⟨rfl, a, rfl⟩ | ⟨rfl, a, rfl⟩ | ⟨rfl, a, rfl⟩ | ⟨rfl, a, rfl⟩ | ⟨rfl, a, rfl⟩ | ⟨rfl, a, rfl⟩ | ⟨rfl, a, b, rfl, ha, hb⟩ | ⟨rfl, c, a, rfl⟩ | ⟨rfl, a, rfl⟩ | ⟨rfl, rfl⟩ | ⟨rfl, rfl⟩
  · obtain ⟨o, ho⟩ := must_nil (x := 20) Tryz.underlying133
    exact Musts.no (impl_no h0 0) (fno0 _ w o ho)
  · obtain ⟨o, ho⟩ := must_lacks (t := 102) (x := 20) (v := _) Tryz.underlying133 (by kernel_rfl)
    exact Musts.no (by decide) (fno0 _ w o ho)
  · obtain ⟨o, ho⟩ := must_lacks (t := 103) (x := 20) (v := _) Tryz.underlying133 (by kernel_rfl)
    exact Musts.no (by decide) (fno0 _ w o ho)
  · obtain ⟨o, ho⟩ := must_lacks (t := 105) (x := 20) (v := _) Tryz.underlying133 (by kernel_rfl)
    exact Musts.no (by decide) (fno0 _ w o ho)
  · exact Musts.yes (by decide) (fyes0 _ _ w fun w => must_has Tryz.underlying133 (by kernel_rfl) w)
  · exact Musts.yes (by decide) (fyes0 _ _ w fun w => must_has Tryz.underlying133 (by kernel_rfl) w)
  · obtain ⟨o, ho⟩ := must_lacks (t := 109) (x := 20) (v := _) Tryz.underlying133 (by kernel_rfl)
    exact Musts.no (by decide) (fno0 _ w o ho)
  · exact Musts.yes (by decide) (fyes0 _ _ w fun w => must_has Tryz.underlying133 (by kernel_rfl) w)
  · exact Musts.yes (by decide) (fyes0 _ _ w fun w => must_has Tryz.underlying133 (by kernel_rfl) w)
  · exact Musts.yes (by decide) (fyes0 _ _ w fun w => must_has Tryz.underlying133 (by kernel_rfl) w)
  · obtain ⟨o, ho⟩ := must_lacks (t := 119) (x := 20) (v := _) Tryz.underlying133 (by kernel_rfl)
    exact Musts.no (by decide) (fno0 _ w o ho)
  · exact Musts.yes (by decide) (fyes0 _ _ w fun w => must_has Tryz.underlying133 (by kernel_rfl) w)
  · exact Musts.yes (by decide) (fyes0 _ _ w fun w => must_has Tryz.underlying133 (by kernel_rfl) w)
  · obtain ⟨o, ho⟩ := must_lacks (t := 122) (x := 20) (v := _) Tryz.underlying133 (by kernel_rfl)
    exact Musts.no (by decide) (fno0 _ w o ho)

set_option maxRecDepth 100000 in
set_option maxHeartbeats 1000000 in
theorem fno1 (u : Value) (w : World) (o : Obj) (h : ∀ w : World, (Instr.typeAssert u 20 136 false).run Tryz.prog w = .halt (.panic (.iface 15 (.pointer (some ⟨w.heap.size, 0, none⟩)))) (w.alloc o)) : Calls Tryz.prog 78 #[.agg #[], u] w fun e w' => Pan w w' e := by
  go_enter Tryz.func78, Tryz.ntmps78
  go_wp2
  exact ⟨rfl, _, rfl, below2 w _ _⟩
set_option maxRecDepth 100000 in
set_option maxHeartbeats 1000000 in
theorem fyes1 (t : TypeId) (z : Value) (w : World) (h : ∀ w : World, (Instr.typeAssert (.iface t z) 20 136 false).run Tryz.prog w = .ok (.iface t z) w) : Calls Tryz.prog 78 #[.agg #[], .iface t z] w fun e w' => e = .returned (.iface t z) ∧ Below w.heap.size w w' := by
  go_enter Tryz.func78, Tryz.ntmps78
  go_wp2
  go_ret
  exact ⟨rfl, below1 w _⟩
theorem fmu1 : Musts 78 (fun k => impl k 1) := by
  intro k u w hk
  rcases hk.cases with ⟨h0, rfl⟩ | ⟨rfl, a, rfl⟩ | ⟨rfl, a, rfl⟩ | ⟨rfl, a, rfl⟩ | ⟨rfl, a, rfl⟩ | ⟨rfl, a, rfl⟩ | ⟨rfl, a, rfl⟩ | ⟨rfl, a, rfl⟩ | ⟨rfl, a, rfl⟩ | ⟨rfl, a, b, rfl, ha, hb⟩ | ⟨rfl, c, a, rfl⟩ | ⟨rfl, a, rfl⟩ | ⟨rfl, rfl⟩ | ⟨rfl, rfl⟩
  · obtain ⟨o, ho⟩ := must_nil (x := 20) Tryz.underlying136
    exact Musts.no (impl_no h0 1) (fno1 _ w o ho)
  · obtain ⟨o, ho⟩ := must_lacks (t := 102) (x := 20) (v := _) Tryz.underlying136 (by kernel_rfl)
    exact Musts.no (by decide) (fno1 _ w o ho)
  · exact Musts.yes (by decide) (fyes1 _ _ w fun w => must_has Tryz.underlying136 (by kernel_rfl) w)
  · obtain ⟨o, ho⟩ := must_lacks (t := 105) (x := 20) (v := _) Tryz.underlying136 (by kernel_rfl)
    exact Musts.no (by decide) (fno1 _ w o ho)
  · obtain ⟨o, ho⟩ := must_lacks (t := 107) (x := 20) (v := _) Tryz.underlying136 (by kernel_rfl)
    exact Musts.no (by decide) (fno1 _ w o ho)
  · exact Musts.yes (by decide) (fyes1 _ _ w fun w => must_has Tryz.underlying136 (by kernel_rfl) w)
  · obtain ⟨o, ho⟩ := must_lacks (t := 109) (x := 20) (v := _) Tryz.underlying136 (by kernel_rfl)
    exact Musts.no (by decide) (fno1 _ w o ho)
  · obtain ⟨o, ho⟩ := must_lacks (t := 112) (x := 20) (v := _) Tryz.underlying136 (by kernel_rfl)
    exact Musts.no (by decide) (fno1 _ w o ho)
  · obtain ⟨o, ho⟩ := must_lacks (t := 114) (x := 20) (v := _) Tryz.underlying136 (by kernel_rfl)
    exact Musts.no (by decide) (fno1 _ w o ho)
  · obtain ⟨o, ho⟩ := must_lacks (t := 117) (x := 20) (v := _) Tryz.underlying136 (by kernel_rfl)
    exact Musts.no (by decide) (fno1 _ w o ho)
  · exact Musts.yes (by decide) (fyes1 _ _ w fun w => must_has Tryz.underlying136 (by kernel_rfl) w)
  · obtain ⟨o, ho⟩ := must_lacks (t := 120) (x := 20) (v := _) Tryz.underlying136 (by kernel_rfl)
    exact Musts.no (by decide) (fno1 _ w o ho)
  · obtain ⟨o, ho⟩ := must_lacks (t := 120) (x := 20) (v := _) Tryz.underlying136 (by kernel_rfl)
    exact Musts.no (by decide) (fno1 _ w o ho)
  · obtain ⟨o, ho⟩ := must_lacks (t := 122) (x := 20) (v := _) Tryz.underlying136 (by kernel_rfl)
    exact Musts.no (by decide) (fno1 _ w o ho)

set_option maxRecDepth 100000 in
set_option maxHeartbeats 1000000 in
theorem fno2 (u : Value) (w : World) (o : Obj) (h : ∀ w : World, (Instr.typeAssert u 20 139 false).run Tryz.prog w = .halt (.panic (.iface 15 (.pointer (some ⟨w.heap.size, 0, none⟩)))) (w.alloc o)) : Calls Tryz.prog 80 #[.agg #[], u] w fun e w' => Pan w w' e := by
  go_enter Tryz.func80, Tryz.ntmps80
  go_wp2
  exact ⟨rfl, _, rfl, below2 w _ _⟩
set_option maxRecDepth 100000 in
set_option maxHeartbeats 1000000 in
theorem fyes2 (t : TypeId) (z : Value) (w : World) (h : ∀ w : World, (Instr.typeAssert (.iface t z) 20 139 false).run Tryz.prog w = .ok (.iface t z) w) : Calls Tryz.prog 80 #[.agg #[], .iface t z] w fun e w' => e = .returned (.iface t z) ∧ Below w.heap.size w w' := by
  go_enter Tryz.func80, Tryz.ntmps80
  go_wp2
  go_ret
  exact ⟨rfl, below1 w _⟩
theorem fmu2 : Musts 80 (fun k => impl k 2) := by
  intro k u w hk
  rcases hk.cases with ⟨h0, rfl⟩ | ⟨rfl, a, rfl⟩ | ⟨rfl, a, rfl⟩ | ⟨rfl, a, rfl⟩ | ⟨rfl, a, rfl⟩ | ⟨rfl, a, rfl⟩ | ⟨rfl, a, rfl⟩ | ⟨rfl, a, rfl⟩ | ⟨rfl, a, rfl⟩ | ⟨rfl, a, b, rfl, ha, hb⟩ | ⟨rfl, c, a, rfl⟩ | ⟨rfl, a, rfl⟩ | ⟨rfl, rfl⟩ | ⟨rfl, rfl⟩
  · obtain ⟨o, ho⟩ := must_nil (x := 20) Tryz.underlying139
    exact Musts.no (impl_no h0 2) (fno2 _ w o ho)
  · obtain ⟨o, ho⟩ := must_lacks (t := 102) (x := 20) (v := _) Tryz.underlying139 (by kernel_rfl)
    exact Musts.no (by decide) (fno2 _ w o ho)
  · obtain ⟨o, ho⟩ := must_lacks (t := 103) (x := 20) (v := _) Tryz.underlying139 (by kernel_rfl)
    exact Musts.no (by decide) (fno2 _ w o ho)
  · obtain ⟨o, ho⟩ := must_lacks (t := 105) (x := 20) (v := _) Tryz.underlying139 (by kernel_rfl)
    exact Musts.no (by decide) (fno2 _ w o ho)
  · obtain ⟨o, ho⟩ := must_lacks (t := 107) (x := 20) (v := _) Tryz.underlying139 (by kernel_rfl)
    exact Musts.no (by decide) (fno2 _ w o ho)
  · obtain ⟨o, ho⟩ := must_lacks (t := 108) (x := 20) (v := _) Tryz.underlying139 (by kernel_rfl)
    exact Musts.no (by decide) (fno2 _ w o ho)
  · obtain ⟨o, ho⟩ := must_lacks (t := 109) (x := 20) (v := _) Tryz.underlying139 (by kernel_rfl)
    exact Musts.no (by decide) (fno2 _ w o ho)
  · obtain ⟨o, ho⟩ := must_lacks (t := 112) (x := 20) (v := _) Tryz.underlying139 (by kernel_rfl)
    exact Musts.no (by decide) (fno2 _ w o ho)
  · obtain ⟨o, ho⟩ := must_lacks (t := 114) (x := 20) (v := _) Tryz.underlying139 (by kernel_rfl)
    exact Musts.no (by decide) (fno2 _ w o ho)
  · obtain ⟨o, ho⟩ := must_lacks (t := 117) (x := 20) (v := _) Tryz.underlying139 (by kernel_rfl)
    exact Musts.no (by decide) (fno2 _ w o ho)
  · exact Musts.yes (by decide) (fyes2 _ _ w fun w => must_has Tryz.underlying139 (by kernel_rfl) w)
  · exact Musts.yes (by decide) (fyes2 _ _ w fun w => must_has Tryz.underlying139 (by kernel_rfl) w)
  · exact Musts.yes (by decide) (fyes2 _ _ w fun w => must_has Tryz.underlying139 (by kernel_rfl) w)
  · obtain ⟨o, ho⟩ := must_lacks (t := 122) (x := 20) (v := _) Tryz.underlying139 (by kernel_rfl)
    exact Musts.no (by decide) (fno2 _ w o ho)

set_option maxRecDepth 100000 in
set_option maxHeartbeats 1000000 in
theorem fno3 (u : Value) (w : World) (o : Obj) (h : ∀ w : World, (Instr.typeAssert u 20 142 false).run Tryz.prog w = .halt (.panic (.iface 15 (.pointer (some ⟨w.heap.size, 0, none⟩)))) (w.alloc o)) : Calls Tryz.prog 82 #[.agg #[], u] w fun e w' => Pan w w' e := by
  go_enter Tryz.func82, Tryz.ntmps82
  go_wp2
  exact ⟨rfl, _, rfl, below2 w _ _⟩
set_option maxRecDepth 100000 in
set_option maxHeartbeats 1000000 in
theorem fyes3 (t : TypeId) (z : Value) (w : World) (h : ∀ w : World, (Instr.typeAssert (.iface t z) 20 142 false).run Tryz.prog w = .ok (.iface t z) w) : Calls Tryz.prog 82 #[.agg #[], .iface t z] w fun e w' => e = .returned (.iface t z) ∧ Below w.heap.size w w' := by
  go_enter Tryz.func82, Tryz.ntmps82
  go_wp2
  go_ret
  exact ⟨rfl, below1 w _⟩
theorem fmu3 : Musts 82 (fun k => impl k 3) := by
  intro k u w hk
  rcases hk.cases with ⟨h0, rfl⟩ | ⟨rfl, a, rfl⟩ | ⟨rfl, a, rfl⟩ | ⟨rfl, a, rfl⟩ | ⟨rfl, a, rfl⟩ | ⟨rfl, a, rfl⟩ | ⟨rfl, a, rfl⟩ | ⟨rfl, a, rfl⟩ | ⟨rfl, a, rfl⟩ | ⟨rfl, a, b, rfl, ha, hb⟩ | ⟨rfl, c, a, rfl⟩ | ⟨rfl, a, rfl⟩ | ⟨rfl, rfl⟩ | ⟨rfl, rfl⟩
  · obtain ⟨o, ho⟩ := must_nil (x := 20) Tryz.underlying142
    exact Musts.no (impl_no h0 3) (fno3 _ w o ho)
  · obtain ⟨o, ho⟩ := must_lacks (t := 102) (x := 20) (v := _) Tryz.underlying142 (by kernel_rfl)
    exact Musts.no (by decide) (fno3 _ w o ho)
  · obtain ⟨o, ho⟩ := must_lacks (t := 103) (x := 20) (v := _) Tryz.underlying142 (by kernel_rfl)
    exact Musts.no (by decide) (fno3 _ w o ho)
  · obtain ⟨o, ho⟩ := must_lacks (t := 105) (x := 20) (v := _) Tryz.underlying142 (by kernel_rfl)
    exact Musts.no (by decide) (fno3 _ w o ho)
  · obtain ⟨o, ho⟩ := must_lacks (t := 107) (x := 20) (v := _) Tryz.underlying142 (by kernel_rfl)
    exact Musts.no (by decide) (fno3 _ w o ho)
  · obtain ⟨o, ho⟩ := must_lacks (t := 108) (x := 20) (v := _) Tryz.underlying142 (by kernel_rfl)
    exact Musts.no (by decide) (fno3 _ w o ho)
  · obtain ⟨o, ho⟩ := must_lacks (t := 109) (x := 20) (v := _) Tryz.underlying142 (by kernel_rfl)
    exact Musts.no (by decide) (fno3 _ w o ho)
  · obtain ⟨o, ho⟩ := must_lacks (t := 112) (x := 20) (v := _) Tryz.underlying142 (by kernel_rfl)
    exact Musts.no (by decide) (fno3 _ w o ho)
  · obtain ⟨o, ho⟩ := must_lacks (t := 114) (x := 20) (v := _) Tryz.underlying142 (by kernel_rfl)
    exact Musts.no (by decide) (fno3 _ w o ho)
  · obtain ⟨o, ho⟩ := must_lacks (t := 117) (x := 20) (v := _) Tryz.underlying142 (by kernel_rfl)
    exact Musts.no (by decide) (fno3 _ w o ho)
  · obtain ⟨o, ho⟩ := must_lacks (t := 119) (x := 20) (v := _) Tryz.underlying142 (by kernel_rfl)
    exact Musts.no (by decide) (fno3 _ w o ho)
  · exact Musts.yes (by decide) (fyes3 _ _ w fun w => must_has Tryz.underlying142 (by kernel_rfl) w)
  · exact Musts.yes (by decide) (fyes3 _ _ w fun w => must_has Tryz.underlying142 (by kernel_rfl) w)
  · obtain ⟨o, ho⟩ := must_lacks (t := 122) (x := 20) (v := _) Tryz.underlying142 (by kernel_rfl)
    exact Musts.no (by decide) (fno3 _ w o ho)

set_option maxRecDepth 100000 in
set_option maxHeartbeats 1000000 in
theorem fno4 (u : Value) (w : World) (o : Obj) (h : ∀ w : World, (Instr.typeAssert u 20 145 false).run Tryz.prog w = .halt (.panic (.iface 15 (.pointer (some ⟨w.heap.size, 0, none⟩)))) (w.alloc o)) : Calls Tryz.prog 84 #[.agg #[], u] w fun e w' => Pan w w' e := by
  go_enter Tryz.func84, Tryz.ntmps84
  go_wp2
  exact ⟨rfl, _, rfl, below2 w _ _⟩
set_option maxRecDepth 100000 in
set_option maxHeartbeats 1000000 in
theorem fyes4 (t : TypeId) (z : Value) (w : World) (h : ∀ w : World, (Instr.typeAssert (.iface t z) 20 145 false).run Tryz.prog w = .ok (.iface t z) w) : Calls Tryz.prog 84 #[.agg #[], .iface t z] w fun e w' => e = .returned (.iface t z) ∧ Below w.heap.size w w' := by
  go_enter Tryz.func84, Tryz.ntmps84
  go_wp2
  go_ret
  exact ⟨rfl, below1 w _⟩
theorem fmu4 : Musts 84 (fun k => impl k 4) := by
  intro k u w hk
  rcases hk.cases with ⟨h0, rfl⟩ | ⟨rfl, a, rfl⟩ | ⟨rfl, a, rfl⟩ | ⟨rfl, a, rfl⟩ | ⟨rfl, a, rfl⟩ | ⟨rfl, a, rfl⟩ | ⟨rfl, a, rfl⟩ | ⟨rfl, a, rfl⟩ | ⟨rfl, a, rfl⟩ | ⟨rfl, a, b, rfl, ha, hb⟩ | ⟨rfl, c, a, rfl⟩ | ⟨rfl, a, rfl⟩ | ⟨rfl, rfl⟩ | ⟨rfl, rfl⟩
  · obtain ⟨o, ho⟩ := must_nil (x := 20) Tryz.underlying145
    exact Musts.no (impl_no h0 4) (fno4 _ w o ho)
  · exact Musts.yes (by decide) (fyes4 _ _ w fun w => must_has Tryz.underlying145 (by kernel_rfl) w)
  · exact Musts.yes (by decide) (fyes4 _ _ w fun w => must_has Tryz.underlying145 (by kernel_rfl) w)
  · exact Musts.yes (by decide) (fyes4 _ _ w fun w => must_has Tryz.underlying145 (by kernel_rfl) w)
  · exact Musts.yes (by decide) (fyes4 _ _ w fun w => must_has Tryz.underlying145 (by kernel_rfl) w)
  · exact Musts.yes (by decide) (fyes4 _ _ w fun w => must_has Tryz.underlying145 (by kernel_rfl) w)
  · obtain ⟨o, ho⟩ := must_lacks (t := 109) (x := 20) (v := _) Tryz.underlying145 (by kernel_rfl)
    exact Musts.no (by decide) (fno4 _ w o ho)
  · obtain ⟨o, ho⟩ := must_lacks (t := 112) (x := 20) (v := _) Tryz.underlying145 (by kernel_rfl)
    exact Musts.no (by decide) (fno4 _ w o ho)
  · obtain ⟨o, ho⟩ := must_lacks (t := 114) (x := 20) (v := _) Tryz.underlying145 (by kernel_rfl)
    exact Musts.no (by decide) (fno4 _ w o ho)
  · obtain ⟨o, ho⟩ := must_lacks (t := 117) (x := 20) (v := _) Tryz.underlying145 (by kernel_rfl)
    exact Musts.no (by decide) (fno4 _ w o ho)
  · obtain ⟨o, ho⟩ := must_lacks (t := 119) (x := 20) (v := _) Tryz.underlying145 (by kernel_rfl)
    exact Musts.no (by decide) (fno4 _ w o ho)
  · obtain ⟨o, ho⟩ := must_lacks (t := 120) (x := 20) (v := _) Tryz.underlying145 (by kernel_rfl)
    exact Musts.no (by decide) (fno4 _ w o ho)
  · obtain ⟨o, ho⟩ := must_lacks (t := 120) (x := 20) (v := _) Tryz.underlying145 (by kernel_rfl)
    exact Musts.no (by decide) (fno4 _ w o ho)
  · obtain ⟨o, ho⟩ := must_lacks (t := 122) (x := 20) (v := _) Tryz.underlying145 (by kernel_rfl)
    exact Musts.no (by decide) (fno4 _ w o ho)

set_option maxRecDepth 100000 in
set_option maxHeartbeats 1000000 in
theorem fno5 (u : Value) (w : World) (o : Obj) (h : ∀ w : World, (Instr.typeAssert u 20 148 false).run Tryz.prog w = .halt (.panic (.iface 15 (.pointer (some ⟨w.heap.size, 0, none⟩)))) (w.alloc o)) : Calls Tryz.prog 86 #[.agg #[], u] w fun e w' => Pan w w' e := by
  go_enter Tryz.func86, Tryz.ntmps86
  go_wp2
  exact ⟨rfl, _, rfl, below2 w _ _⟩
set_option maxRecDepth 100000 in
set_option maxHeartbeats 1000000 in
theorem fyes5 (t : TypeId) (z : Value) (w : World) (h : ∀ w : World, (Instr.typeAssert (.iface t z) 20 148 false).run Tryz.prog w = .ok (.iface t z) w) : Calls Tryz.prog 86 #[.agg #[], .iface t z] w fun e w' => e = .returned (.iface t z) ∧ Below w.heap.size w w' := by
  go_enter Tryz.func86, Tryz.ntmps86
  go_wp2
  go_ret
  exact ⟨rfl, below1 w _⟩
theorem fmu5 : Musts 86 (fun k => impl k 5) := by
  intro k u w hk
  rcases hk.cases with ⟨h0, rfl⟩ | ⟨rfl, a, rfl⟩ | ⟨rfl, a, rfl⟩ | ⟨rfl, a, rfl⟩ | ⟨rfl, a, rfl⟩ | ⟨rfl, a, rfl⟩ | ⟨rfl, a, rfl⟩ | ⟨rfl, a, rfl⟩ | ⟨rfl, a, rfl⟩ | ⟨rfl, a, b, rfl, ha, hb⟩ | ⟨rfl, c, a, rfl⟩ | ⟨rfl, a, rfl⟩ | ⟨rfl, rfl⟩ | ⟨rfl, rfl⟩
  · obtain ⟨o, ho⟩ := must_nil (x := 20) Tryz.underlying148
    exact Musts.no (impl_no h0 5) (fno5 _ w o ho)
  · exact Musts.yes (by decide) (fyes5 _ _ w fun w => must_has Tryz.underlying148 (by kernel_rfl) w)
  · obtain ⟨o, ho⟩ := must_lacks (t := 103) (x := 20) (v := _) Tryz.underlying148 (by kernel_rfl)
    exact Musts.no (by decide) (fno5 _ w o ho)
  · exact Musts.yes (by decide) (fyes5 _ _ w fun w => must_has Tryz.underlying148 (by kernel_rfl) w)
  · obtain ⟨o, ho⟩ := must_lacks (t := 107) (x := 20) (v := _) Tryz.underlying148 (by kernel_rfl)
    exact Musts.no (by decide) (fno5 _ w o ho)
  · obtain ⟨o, ho⟩ := must_lacks (t := 108) (x := 20) (v := _) Tryz.underlying148 (by kernel_rfl)
    exact Musts.no (by decide) (fno5 _ w o ho)
  · obtain ⟨o, ho⟩ := must_lacks (t := 109) (x := 20) (v := _) Tryz.underlying148 (by kernel_rfl)
    exact Musts.no (by decide) (fno5 _ w o ho)
  · obtain ⟨o, ho⟩ := must_lacks (t := 112) (x := 20) (v := _) Tryz.underlying148 (by kernel_rfl)
    exact Musts.no (by decide) (fno5 _ w o ho)
  · obtain ⟨o, ho⟩ := must_lacks (t := 114) (x := 20) (v := _) Tryz.underlying148 (by kernel_rfl)
    exact Musts.no (by decide) (fno5 _ w o ho)
  · obtain ⟨o, ho⟩ := must_lacks (t := 117) (x := 20) (v := _) Tryz.underlying148 (by kernel_rfl)
    exact Musts.no (by decide) (fno5 _ w o ho)
  · obtain ⟨o, ho⟩ := must_lacks (t := 119) (x := 20) (v := _) Tryz.underlying148 (by kernel_rfl)
    exact Musts.no (by decide) (fno5 _ w o ho)
  · obtain ⟨o, ho⟩ := must_lacks (t := 120) (x := 20) (v := _) Tryz.underlying148 (by kernel_rfl)
    exact Musts.no (by decide) (fno5 _ w o ho)
  · obtain ⟨o, ho⟩ := must_lacks (t := 120) (x := 20) (v := _) Tryz.underlying148 (by kernel_rfl)
    exact Musts.no (by decide) (fno5 _ w o ho)
  · obtain ⟨o, ho⟩ := must_lacks (t := 122) (x := 20) (v := _) Tryz.underlying148 (by kernel_rfl)
    exact Musts.no (by decide) (fno5 _ w o ho)

set_option maxRecDepth 100000 in
set_option maxHeartbeats 1000000 in
theorem fno6 (u : Value) (w : World) (o : Obj) (h : ∀ w : World, (Instr.typeAssert u 20 166 false).run Tryz.prog w = .halt (.panic (.iface 15 (.pointer (some ⟨w.heap.size, 0, none⟩)))) (w.alloc o)) : Calls Tryz.prog 88 #[.agg #[], u] w fun e w' => Pan w w' e := by
  go_enter Tryz.func88, Tryz.ntmps88
  go_wp2
  exact ⟨rfl, _, rfl, below2 w _ _⟩
set_option maxRecDepth 100000 in
set_option maxHeartbeats 1000000 in
theorem fyes6 (t : TypeId) (z : Value) (w : World) (h : ∀ w : World, (Instr.typeAssert (.iface t z) 20 166 false).run Tryz.prog w = .ok (.iface t z) w) : Calls Tryz.prog 88 #[.agg #[], .iface t z] w fun e w' => e = .returned (.iface t z) ∧ Below w.heap.size w w' := by
  go_enter Tryz.func88, Tryz.ntmps88
  go_wp2
  go_ret
  exact ⟨rfl, below1 w _⟩
theorem fmu6 : Musts 88 (fun k => impl k 6) := by
  intro k u w hk
  rcases hk.cases with ⟨h0, rfl⟩ | ⟨rfl, a, rfl⟩ | ⟨rfl, a, rfl⟩ | ⟨rfl, a, rfl⟩ | ⟨rfl, a, rfl⟩ | ⟨rfl, a, rfl⟩ | ⟨rfl, a, rfl⟩ | ⟨rfl, a, rfl⟩ | ⟨rfl, a, rfl⟩ | ⟨rfl, a, b, rfl, ha, hb⟩ | ⟨rfl, c, a, rfl⟩ | ⟨rfl, a, rfl⟩ | ⟨rfl, rfl⟩ | ⟨rfl, rfl⟩
  · obtain ⟨o, ho⟩ := must_nil (x := 20) Tryz.underlying166
    exact Musts.no (impl_no h0 6) (fno6 _ w o ho)
  · obtain ⟨o, ho⟩ := must_lacks (t := 102) (x := 20) (v := _) Tryz.underlying166 (by kernel_rfl)
    exact Musts.no (by decide) (fno6 _ w o ho)
  · obtain ⟨o, ho⟩ := must_lacks (t := 103) (x := 20) (v := _) Tryz.underlying166 (by kernel_rfl)
    exact Musts.no (by decide) (fno6 _ w o ho)
  · obtain ⟨o, ho⟩ := must_lacks (t := 105) (x := 20) (v := _) Tryz.underlying166 (by kernel_rfl)
    exact Musts.no (by decide) (fno6 _ w o ho)
  · obtain ⟨o, ho⟩ := must_lacks (t := 107) (x := 20) (v := _) Tryz.underlying166 (by kernel_rfl)
    exact Musts.no (by decide) (fno6 _ w o ho)
  · exact Musts.yes (by decide) (fyes6 _ _ w fun w => must_has Tryz.underlying166 (by kernel_rfl) w)
  · obtain ⟨o, ho⟩ := must_lacks (t := 109) (x := 20) (v := _) Tryz.underlying166 (by kernel_rfl)
    exact Musts.no (by decide) (fno6 _ w o ho)
  · obtain ⟨o, ho⟩ := must_lacks (t := 112) (x := 20) (v := _) Tryz.underlying166 (by kernel_rfl)
    exact Musts.no (by decide) (fno6 _ w o ho)
  · obtain ⟨o, ho⟩ := must_lacks (t := 114) (x := 20) (v := _) Tryz.underlying166 (by kernel_rfl)
    exact Musts.no (by decide) (fno6 _ w o ho)
  · obtain ⟨o, ho⟩ := must_lacks (t := 117) (x := 20) (v := _) Tryz.underlying166 (by kernel_rfl)
    exact Musts.no (by decide) (fno6 _ w o ho)
  · obtain ⟨o, ho⟩ := must_lacks (t := 119) (x := 20) (v := _) Tryz.underlying166 (by kernel_rfl)
    exact Musts.no (by decide) (fno6 _ w o ho)
  · obtain ⟨o, ho⟩ := must_lacks (t := 120) (x := 20) (v := _) Tryz.underlying166 (by kernel_rfl)
    exact Musts.no (by decide) (fno6 _ w o ho)
  · obtain ⟨o, ho⟩ := must_lacks (t := 120) (x := 20) (v := _) Tryz.underlying166 (by kernel_rfl)
    exact Musts.no (by decide) (fno6 _ w o ho)
  · obtain ⟨o, ho⟩ := must_lacks (t := 122) (x := 20) (v := _) Tryz.underlying166 (by kernel_rfl)
    exact Musts.no (by decide) (fno6 _ w o ho)

set_option maxRecDepth 100000 in
set_option maxHeartbeats 1000000 in
theorem fno7 (u : Value) (w : World) (o : Obj) (h : ∀ w : World, (Instr.typeAssert u 20 169 false).run Tryz.prog w = .halt (.panic (.iface 15 (.pointer (some ⟨w.heap.size, 0, none⟩)))) (w.alloc o)) : Calls Tryz.prog 90 #[.agg #[], u] w fun e w' => Pan w w' e := by
  go_enter Tryz.func90, Tryz.ntmps90
  go_wp2
  exact ⟨rfl, _, rfl, below2 w _ _⟩
set_option maxRecDepth 100000 in
set_option maxHeartbeats 1000000 in
theorem fyes7 (t : TypeId) (z : Value) (w : World) (h : ∀ w : World, (Instr.typeAssert (.iface t z) 20 169 false).run Tryz.prog w = .ok (.iface t z) w) : Calls Tryz.prog 90 #[.agg #[], .iface t z] w fun e w' => e = .returned (.iface t z) ∧ Below w.heap.size w w' := by
  go_enter Tryz.func90, Tryz.ntmps90
  go_wp2
  go_ret
  exact ⟨rfl, below1 w _⟩
theorem fmu7 : Musts 90 (fun k => impl k 7) := by
  intro k u w hk
  rcases hk.cases with ⟨h0, rfl⟩ | ⟨rfl, a, rfl⟩ | ⟨rfl, a, rfl⟩ | ⟨rfl, a, rfl⟩ | ⟨rfl, a, rfl⟩ | ⟨rfl, a, rfl⟩ | ⟨rfl, a, rfl⟩ | ⟨rfl, a, rfl⟩ | ⟨rfl, a, rfl⟩ | ⟨rfl, a, b, rfl, ha, hb⟩ | ⟨rfl, c, a, rfl⟩ | ⟨rfl, a, rfl⟩ | ⟨rfl, rfl⟩ | ⟨rfl, rfl⟩
  · obtain ⟨o, ho⟩ := must_nil (x := 20) Tryz.underlying169
    exact Musts.no (impl_no h0 7) (fno7 _ w o ho)
  · obtain ⟨o, ho⟩ := must_lacks (t := 102) (x := 20) (v := _) Tryz.underlying169 (by kernel_rfl)
    exact Musts.no (by decide) (fno7 _ w o ho)
  · obtain ⟨o, ho⟩ := must_lacks (t := 103) (x := 20) (v := _) Tryz.underlying169 (by kernel_rfl)
    exact Musts.no (by decide) (fno7 _ w o ho)
  · obtain ⟨o, ho⟩ := must_lacks (t := 105) (x := 20) (v := _) Tryz.underlying169 (by kernel_rfl)
    exact Musts.no (by decide) (fno7 _ w o ho)
  · exact Musts.yes (by decide) (fyes7 _ _ w fun w => must_has Tryz.underlying169 (by kernel_rfl) w)
  · exact Musts.yes (by decide) (fyes7 _ _ w fun w => must_has Tryz.underlying169 (by kernel_rfl) w)
  · obtain ⟨o, ho⟩ := must_lacks (t := 109) (x := 20) (v := _) Tryz.underlying169 (by kernel_rfl)
    exact Musts.no (by decide) (fno7 _ w o ho)
  · obtain ⟨o, ho⟩ := must_lacks (t := 112) (x := 20) (v := _) Tryz.underlying169 (by kernel_rfl)
    exact Musts.no (by decide) (fno7 _ w o ho)
  · obtain ⟨o, ho⟩ := must_lacks (t := 114) (x := 20) (v := _) Tryz.underlying169 (by kernel_rfl)
    exact Musts.no (by decide) (fno7 _ w o ho)
  · obtain ⟨o, ho⟩ := must_lacks (t := 117) (x := 20) (v := _) Tryz.underlying169 (by kernel_rfl)
    exact Musts.no (by decide) (fno7 _ w o ho)
  · obtain ⟨o, ho⟩ := must_lacks (t := 119) (x := 20) (v := _) Tryz.underlying169 (by kernel_rfl)
    exact Musts.no (by decide) (fno7 _ w o ho)
  · obtain ⟨o, ho⟩ := must_lacks (t := 120) (x := 20) (v := _) Tryz.underlying169 (by kernel_rfl)
    exact Musts.no (by decide) (fno7 _ w o ho)
  · obtain ⟨o, ho⟩ := must_lacks (t := 120) (x := 20) (v := _) Tryz.underlying169 (by kernel_rfl)
    exact Musts.no (by decide) (fno7 _ w o ho)
  · obtain ⟨o, ho⟩ := must_lacks (t := 122) (x := 20) (v := _) Tryz.underlying169 (by kernel_rfl)
    exact Musts.no (by decide) (fno7 _ w o ho)

set_option maxRecDepth 100000 in
set_option maxHeartbeats 1000000 in
theorem fno8 (u : Value) (w : World) (o : Obj) (h : ∀ w : World, (Instr.typeAssert u 20 172 false).run Tryz.prog w = .halt (.panic (.iface 15 (.pointer (some ⟨w.heap.size, 0, none⟩)))) (w.alloc o)) : Calls Tryz.prog 92 #[.agg #[], u] w fun e w' => Pan w w' e := by
  go_enter Tryz.func92, Tryz.ntmps92
  go_wp2
  exact ⟨rfl, _, rfl, below2 w _ _⟩
set_option maxRecDepth 100000 in
set_option maxHeartbeats 1000000 in
theorem fyes8 (t : TypeId) (z : Value) (w : World) (h : ∀ w : World, (Instr.typeAssert (.iface t z) 20 172 false).run Tryz.prog w = .ok (.iface t z) w) : Calls Tryz.prog 92 #[.agg #[], .iface t z] w fun e w' => e = .returned (.iface t z) ∧ Below w.heap.size w w' := by
  go_enter Tryz.func92, Tryz.ntmps92
  go_wp2
  go_ret
  exact ⟨rfl, below1 w _⟩
theorem fmu8 : Musts 92 (fun k => impl k 8) := by
  intro k u w hk
  rcases hk.cases with ⟨h0, rfl⟩ | ⟨rfl, a, rfl⟩ | ⟨rfl, a, rfl⟩ | ⟨rfl, a, rfl⟩ | ⟨rfl, a, rfl⟩ | ⟨rfl, a, rfl⟩ | ⟨rfl, a, rfl⟩ | ⟨rfl, a, rfl⟩ | ⟨rfl, a, rfl⟩ | ⟨rfl, a, b, rfl, ha, hb⟩ | ⟨rfl, c, a, rfl⟩ | ⟨rfl, a, rfl⟩ | ⟨rfl, rfl⟩ | ⟨rfl, rfl⟩
  · obtain ⟨o, ho⟩ := must_nil (x := 20) Tryz.underlying172
    exact Musts.no (impl_no h0 8) (fno8 _ w o ho)
  · exact Musts.yes (by decide) (fyes8 _ _ w fun w => must_has Tryz.underlying172 (by kernel_rfl) w)
  · obtain ⟨o, ho⟩ := must_lacks (t := 103) (x := 20) (v := _) Tryz.underlying172 (by kernel_rfl)
    exact Musts.no (by decide) (fno8 _ w o ho)
  · exact Musts.yes (by decide) (fyes8 _ _ w fun w => must_has Tryz.underlying172 (by kernel_rfl) w)
  · obtain ⟨o, ho⟩ := must_lacks (t := 107) (x := 20) (v := _) Tryz.underlying172 (by kernel_rfl)
    exact Musts.no (by decide) (fno8 _ w o ho)
  · obtain ⟨o, ho⟩ := must_lacks (t := 108) (x := 20) (v := _) Tryz.underlying172 (by kernel_rfl)
    exact Musts.no (by decide) (fno8 _ w o ho)
  · obtain ⟨o, ho⟩ := must_lacks (t := 109) (x := 20) (v := _) Tryz.underlying172 (by kernel_rfl)
    exact Musts.no (by decide) (fno8 _ w o ho)
  · obtain ⟨o, ho⟩ := must_lacks (t := 112) (x := 20) (v := _) Tryz.underlying172 (by kernel_rfl)
    exact Musts.no (by decide) (fno8 _ w o ho)
  · obtain ⟨o, ho⟩ := must_lacks (t := 114) (x := 20) (v := _) Tryz.underlying172 (by kernel_rfl)
    exact Musts.no (by decide) (fno8 _ w o ho)
  · obtain ⟨o, ho⟩ := must_lacks (t := 117) (x := 20) (v := _) Tryz.underlying172 (by kernel_rfl)
    exact Musts.no (by decide) (fno8 _ w o ho)
  · obtain ⟨o, ho⟩ := must_lacks (t := 119) (x := 20) (v := _) Tryz.underlying172 (by kernel_rfl)
    exact Musts.no (by decide) (fno8 _ w o ho)
  · obtain ⟨o, ho⟩ := must_lacks (t := 120) (x := 20) (v := _) Tryz.underlying172 (by kernel_rfl)
    exact Musts.no (by decide) (fno8 _ w o ho)
  · obtain ⟨o, ho⟩ := must_lacks (t := 120) (x := 20) (v := _) Tryz.underlying172 (by kernel_rfl)
    exact Musts.no (by decide) (fno8 _ w o ho)
  · obtain ⟨o, ho⟩ := must_lacks (t := 122) (x := 20) (v := _) Tryz.underlying172 (by kernel_rfl)
    exact Musts.no (by decide) (fno8 _ w o ho)

set_option maxRecDepth 100000 in
set_option maxHeartbeats 1000000 in
theorem fno9 (u : Value) (w : World) (o : Obj) (h : ∀ w : World, (Instr.typeAssert u 20 175 false).run Tryz.prog w = .halt (.panic (.iface 15 (.pointer (some ⟨w.heap.size, 0, none⟩)))) (w.alloc o)) : Calls Tryz.prog 94 #[.agg #[], u] w fun e w' => Pan w w' e := by
  go_enter Tryz.func94, Tryz.ntmps94
  go_wp2
  exact ⟨rfl, _, rfl, below2 w _ _⟩
set_option maxRecDepth 100000 in
set_option maxHeartbeats 1000000 in
theorem fyes9 (t : TypeId) (z : Value) (w : World) (h : ∀ w : World, (Instr.typeAssert (.iface t z) 20 175 false).run Tryz.prog w = .ok (.iface t z) w) : Calls Tryz.prog 94 #[.agg #[], .iface t z] w fun e w' => e = .returned (.iface t z) ∧ Below w.heap.size w w' := by
  go_enter Tryz.func94, Tryz.ntmps94
  go_wp2
  go_ret
  exact ⟨rfl, below1 w _⟩
theorem fmu9 : Musts 94 (fun k => impl k 9) := by
  intro k u w hk
  rcases hk.cases with ⟨h0, rfl⟩ | ⟨rfl, a, rfl⟩ | ⟨rfl, a, rfl⟩ | ⟨rfl, a, rfl⟩ | ⟨rfl, a, rfl⟩ | ⟨rfl, a, rfl⟩ | ⟨rfl, a, rfl⟩ | ⟨rfl, a, rfl⟩ | ⟨rfl, a, rfl⟩ | ⟨rfl, a, b, rfl, ha, hb⟩ | ⟨rfl, c, a, rfl⟩ | ⟨rfl, a, rfl⟩ | ⟨rfl, rfl⟩ | ⟨rfl, rfl⟩
  · obtain ⟨o, ho⟩ := must_nil (x := 20) Tryz.underlying175
    exact Musts.no (impl_no h0 9) (fno9 _ w o ho)
  · obtain ⟨o, ho⟩ := must_lacks (t := 102) (x := 20) (v := _) Tryz.underlying175 (by kernel_rfl)
    exact Musts.no (by decide) (fno9 _ w o ho)
  · obtain ⟨o, ho⟩ := must_lacks (t := 103) (x := 20) (v := _) Tryz.underlying175 (by kernel_rfl)
    exact Musts.no (by decide) (fno9 _ w o ho)
  · obtain ⟨o, ho⟩ := must_lacks (t := 105) (x := 20) (v := _) Tryz.underlying175 (by kernel_rfl)
    exact Musts.no (by decide) (fno9 _ w o ho)
  · obtain ⟨o, ho⟩ := must_lacks (t := 107) (x := 20) (v := _) Tryz.underlying175 (by kernel_rfl)
    exact Musts.no (by decide) (fno9 _ w o ho)
  · exact Musts.yes (by decide) (fyes9 _ _ w fun w => must_has Tryz.underlying175 (by kernel_rfl) w)
  · obtain ⟨o, ho⟩ := must_lacks (t := 109) (x := 20) (v := _) Tryz.underlying175 (by kernel_rfl)
    exact Musts.no (by decide) (fno9 _ w o ho)
  · obtain ⟨o, ho⟩ := must_lacks (t := 112) (x := 20) (v := _) Tryz.underlying175 (by kernel_rfl)
    exact Musts.no (by decide) (fno9 _ w o ho)
  · obtain ⟨o, ho⟩ := must_lacks (t := 114) (x := 20) (v := _) Tryz.underlying175 (by kernel_rfl)
    exact Musts.no (by decide) (fno9 _ w o ho)
  · obtain ⟨o, ho⟩ := must_lacks (t := 117) (x := 20) (v := _) Tryz.underlying175 (by kernel_rfl)
    exact Musts.no (by decide) (fno9 _ w o ho)
  · obtain ⟨o, ho⟩ := must_lacks (t := 119) (x := 20) (v := _) Tryz.underlying175 (by kernel_rfl)
    exact Musts.no (by decide) (fno9 _ w o ho)
  · obtain ⟨o, ho⟩ := must_lacks (t := 120) (x := 20) (v := _) Tryz.underlying175 (by kernel_rfl)
    exact Musts.no (by decide) (fno9 _ w o ho)
  · obtain ⟨o, ho⟩ := must_lacks (t := 120) (x := 20) (v := _) Tryz.underlying175 (by kernel_rfl)
    exact Musts.no (by decide) (fno9 _ w o ho)
  · obtain ⟨o, ho⟩ := must_lacks (t := 122) (x := 20) (v := _) Tryz.underlying175 (by kernel_rfl)
    exact Musts.no (by decide) (fno9 _ w o ho)

set_option maxRecDepth 100000 in
set_option maxHeartbeats 1000000 in
theorem fnoN (u : Value) (w : World) (o : Obj) (h : ∀ w : World, (Instr.typeAssert u 20 177 false).run Tryz.prog w = .halt (.panic (.iface 15 (.pointer (some ⟨w.heap.size, 0, none⟩)))) (w.alloc o)) : Calls Tryz.prog 96 #[.agg #[], u] w fun e w' => Pan w w' e := by
  go_enter Tryz.func96, Tryz.ntmps96
  go_wp2
  exact ⟨rfl, _, rfl, below2 w _ _⟩
theorem fmuN : Musts 96 (fun _ => false) := by
  intro k u w hk
  refine Musts.no (p := fun _ => false) (k := k) rfl ?_
  rcases hk.cases with ⟨h0, rfl⟩ | ⟨rfl, a, rfl⟩ | ⟨rfl, a, rfl⟩ | ⟨rfl, a, rfl⟩ | ⟨rfl, a, rfl⟩ | ⟨rfl, a, rfl⟩ | ⟨rfl, a, rfl⟩ | ⟨rfl, a, rfl⟩ | ⟨rfl, a, rfl⟩ | ⟨rfl, a, b, rfl, ha, hb⟩ | ⟨rfl, c, a, rfl⟩ | ⟨rfl, a, rfl⟩ | ⟨rfl, rfl⟩ | ⟨rfl, rfl⟩
  · obtain ⟨o, ho⟩ := must_nil (x := 20) Tryz.underlying177
    exact fnoN _ w o ho
  · obtain ⟨o, ho⟩ := must_ty (t := 102) (x := 20) (v := _) Tryz.underlying177 (fun m h => by cases h) (by decide)
    exact fnoN _ w o ho
  · obtain ⟨o, ho⟩ := must_ty (t := 103) (x := 20) (v := _) Tryz.underlying177 (fun m h => by cases h) (by decide)
    exact fnoN _ w o ho
  · obtain ⟨o, ho⟩ := must_ty (t := 105) (x := 20) (v := _) Tryz.underlying177 (fun m h => by cases h) (by decide)
    exact fnoN _ w o ho
  · obtain ⟨o, ho⟩ := must_ty (t := 107) (x := 20) (v := _) Tryz.underlying177 (fun m h => by cases h) (by decide)
    exact fnoN _ w o ho
  · obtain ⟨o, ho⟩ := must_ty (t := 108) (x := 20) (v := _) Tryz.underlying177 (fun m h => by cases h) (by decide)
    exact fnoN _ w o ho
  · obtain ⟨o, ho⟩ := must_ty (t := 109) (x := 20) (v := _) Tryz.underlying177 (fun m h => by cases h) (by decide)
    exact fnoN _ w o ho
  · obtain ⟨o, ho⟩ := must_ty (t := 112) (x := 20) (v := _) Tryz.underlying177 (fun m h => by cases h) (by decide)
    exact fnoN _ w o ho
  · obtain ⟨o, ho⟩ := must_ty (t := 114) (x := 20) (v := _) Tryz.underlying177 (fun m h => by cases h) (by decide)
    exact fnoN _ w o ho
  · obtain ⟨o, ho⟩ := must_ty (t := 117) (x := 20) (v := _) Tryz.underlying177 (fun m h => by cases h) (by decide)
    exact fnoN _ w o ho
  · obtain ⟨o, ho⟩ := must_ty (t := 119) (x := 20) (v := _) Tryz.underlying177 (fun m h => by cases h) (by decide)
    exact fnoN _ w o ho
  · obtain ⟨o, ho⟩ := must_ty (t := 120) (x := 20) (v := _) Tryz.underlying177 (fun m h => by cases h) (by decide)
    exact fnoN _ w o ho
  · obtain ⟨o, ho⟩ := must_ty (t := 120) (x := 20) (v := _) Tryz.underlying177 (fun m h => by cases h) (by decide)
    exact fnoN _ w o ho
  · obtain ⟨o, ho⟩ := must_ty (t := 122) (x := 20) (v := _) Tryz.underlying177 (fun m h => by cases h) (by decide)
    exact fnoN _ w o ho

/-- The question of type A and value av is asked, panicking, by function F. -/
def MethA (A : Nat) (av : Value) (F : Nat) : Prop := (∀ w : World, (method 295 A av "conduit/want.must").run Tryz.prog w = .ok (F, .agg #[]) w) ∧ ∀ (args : Array Value) (w : World), (callFunc F args).run Tryz.prog w = .ok (.enter F args) w

/-- Every interface's question is asked, panicking, by some function. -/
theorem face_musts (f : Int) : ∃ F, MethA 57 (.agg #[.iface (qfc f) (.agg #[]), .int .u8 (mbits f)]) F ∧ Musts F (fun k => impl k f) := by
  by_cases h : f < 0 ∨ 9 < f
  · have hq : qfc f = 83 := by
      unfold qfc
      rw [if_neg (show ¬ f = 0 by omega)]
      rw [if_neg (show ¬ f = 1 by omega)]
      rw [if_neg (show ¬ f = 2 by omega)]
      rw [if_neg (show ¬ f = 3 by omega)]
      rw [if_neg (show ¬ f = 4 by omega)]
      rw [if_neg (show ¬ f = 5 by omega)]
      rw [if_neg (show ¬ f = 6 by omega)]
      rw [if_neg (show ¬ f = 7 by omega)]
      rw [if_neg (show ¬ f = 8 by omega)]
      rw [if_neg (show ¬ f = 9 by omega)]
    rw [hq]
    refine ⟨96, ⟨fun _ => by kernel_rfl, fun _ _ => by kernel_rfl⟩, ?_⟩
    have : (fun k => impl k f) = fun _ => false := funext fun k => impl_none k f h
    rw [this]
    exact fmuN
  have hk : f = 0 ∨ f = 1 ∨ f = 2 ∨ f = 3 ∨ f = 4 ∨ f = 5 ∨ f = 6 ∨ f = 7 ∨ f = 8 ∨ f = 9 := by omega
  rcases hk with rfl | rfl | rfl | rfl | rfl | rfl | rfl | rfl | rfl | rfl
  · exact ⟨76, ⟨fun _ => by kernel_rfl, fun _ _ => by kernel_rfl⟩, fmu0⟩
  · exact ⟨78, ⟨fun _ => by kernel_rfl, fun _ _ => by kernel_rfl⟩, fmu1⟩
  · exact ⟨80, ⟨fun _ => by kernel_rfl, fun _ _ => by kernel_rfl⟩, fmu2⟩
  · exact ⟨82, ⟨fun _ => by kernel_rfl, fun _ _ => by kernel_rfl⟩, fmu3⟩
  · exact ⟨84, ⟨fun _ => by kernel_rfl, fun _ _ => by kernel_rfl⟩, fmu4⟩
  · exact ⟨86, ⟨fun _ => by kernel_rfl, fun _ _ => by kernel_rfl⟩, fmu5⟩
  · exact ⟨88, ⟨fun _ => by kernel_rfl, fun _ _ => by kernel_rfl⟩, fmu6⟩
  · exact ⟨90, ⟨fun _ => by kernel_rfl, fun _ _ => by kernel_rfl⟩, fmu7⟩
  · exact ⟨92, ⟨fun _ => by kernel_rfl, fun _ _ => by kernel_rfl⟩, fmu8⟩
  · exact ⟨94, ⟨fun _ => by kernel_rfl, fun _ _ => by kernel_rfl⟩, fmu9⟩
end Go.Proofs.YtokiaolgdkikiabGreat
