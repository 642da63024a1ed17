/- Each interface's question in the form that panics: the value itself, where its kind has the interface, else the panic; no condition. -/
import Derived.Test.YtajagjcfmaggiaaGreatDoorKCbj
import Derived.Test.YtajagjcfmaggiaaGreatDoorKCca
namespace Go.Proofs.YtajagjcfmaggiaaGreatDoor
open Go.RowKit

/-- The question that function f asks gives the value where p says yes of its kind, and else panics. -/
def Musts (f : Nat) (p : Int → Bool) : Prop := ∀ (k : Int) (u : Value) (w : World), Kd k u → (p k = true → Calls Tryz.prog f #[.agg #[], u] w fun e w' => e = .returned u ∧ Below w.heap.size w w') ∧ (p k = false → Calls Tryz.prog f #[.agg #[], u] w fun e w' => Pan w w' e)
theorem Musts.yes {f : Nat} {p : Int → Bool} {k : Int} {u : Value} {w : World} (hp : p k = true) (h : Calls Tryz.prog f #[.agg #[], u] w fun e w' => e = .returned u ∧ Below w.heap.size w w') : (p k = true → Calls Tryz.prog f #[.agg #[], u] w fun e w' => e = .returned u ∧ Below w.heap.size w w') ∧ (p k = false → Calls Tryz.prog f #[.agg #[], u] w fun e w' => Pan w w' e) := ⟨fun _ => h, fun h' => by rw [hp] at h'; cases h'⟩
theorem Musts.no {f : Nat} {p : Int → Bool} {k : Int} {u : Value} {w : World} (hp : p k = false) (h : Calls Tryz.prog f #[.agg #[], u] w fun e w' => Pan w w' e) : (p k = true → Calls Tryz.prog f #[.agg #[], u] w fun e w' => e = .returned u ∧ Below w.heap.size w w') ∧ (p k = false → Calls Tryz.prog f #[.agg #[], u] w fun e w' => Pan w w' e) := ⟨fun h' => (by rw [hp] at h'; cases h'), fun _ => h⟩

set_option maxRecDepth 100000 in
set_option maxHeartbeats 1000000 in
theorem fno0 (u : Value) (w : World) (o : Obj) (h : ∀ w : World, (Instr.typeAssert u 20 204 false).run Tryz.prog w = .halt (.panic (.iface 15 (.pointer (some ⟨w.heap.size, 0, none⟩)))) (w.alloc o)) : Calls Tryz.prog 190 #[.agg #[], u] w fun e w' => Pan w w' e := by
  go_enter Tryz.func190, Tryz.ntmps190
  go_wp2
  exact ⟨rfl, _, rfl, below2 w _ _⟩
set_option maxRecDepth 100000 in
set_option maxHeartbeats 1000000 in
theorem fyes0 (t : TypeId) (z : Value) (w : World) (h : ∀ w : World, (Instr.typeAssert (.iface t z) 20 204 false).run Tryz.prog w = .ok (.iface t z) w) : Calls Tryz.prog 190 #[.agg #[], .iface t z] w fun e w' => e = .returned (.iface t z) ∧ Below w.heap.size w w' := by
  go_enter Tryz.func190, Tryz.ntmps190
  go_wp2
  go_ret
  exact ⟨rfl, below1 w _⟩
theorem fmu0 : Musts 190 (fun k => impl k 0) := by
  intro k u w hk
  rcases hk.cases with ⟨h0, rfl⟩ | ⟨rfl, a, rfl⟩ | ⟨rfl, a, rfl⟩ | ⟨rfl, a, rfl⟩ | ⟨rfl, a, rfl⟩ | ⟨rfl, a, rfl⟩ | ⟨rfl, a, rfl⟩ | ⟨rfl, a, rfl⟩ | ⟨rfl, a, rfl⟩ | ⟨rfl, a, b, rfl, ha, hb⟩ | ⟨rfl, c, a, rfl⟩ | ⟨rfl, a, rfl⟩ | ⟨rfl, rfl⟩ | ⟨rfl, rfl⟩
  · obtain ⟨o, ho⟩ := must_nil (x := 20) Tryz.underlying204
    exact Musts.no (impl_no h0 0) (fno0 _ w o ho)
  · obtain ⟨o, ho⟩ := must_lacks (t := 140) (x := 20) (v := _) Tryz.underlying204 (by kernel_rfl)
    exact Musts.no (by decide) (fno0 _ w o ho)
  · obtain ⟨o, ho⟩ := must_lacks (t := 141) (x := 20) (v := _) Tryz.underlying204 (by kernel_rfl)
    exact Musts.no (by decide) (fno0 _ w o ho)
  · obtain ⟨o, ho⟩ := must_lacks (t := 142) (x := 20) (v := _) Tryz.underlying204 (by kernel_rfl)
    exact Musts.no (by decide) (fno0 _ w o ho)
  · exact Musts.yes (by decide) (fyes0 _ _ w fun w => must_has Tryz.underlying204 (by kernel_rfl) w)
  · exact Musts.yes (by decide) (fyes0 _ _ w fun w => must_has Tryz.underlying204 (by kernel_rfl) w)
  · obtain ⟨o, ho⟩ := must_lacks (t := 144) (x := 20) (v := _) Tryz.underlying204 (by kernel_rfl)
    exact Musts.no (by decide) (fno0 _ w o ho)
  · exact Musts.yes (by decide) (fyes0 _ _ w fun w => must_has Tryz.underlying204 (by kernel_rfl) w)
  · exact Musts.yes (by decide) (fyes0 _ _ w fun w => must_has Tryz.underlying204 (by kernel_rfl) w)
  · exact Musts.yes (by decide) (fyes0 _ _ w fun w => must_has Tryz.underlying204 (by kernel_rfl) w)
  · obtain ⟨o, ho⟩ := must_lacks (t := 154) (x := 20) (v := _) Tryz.underlying204 (by kernel_rfl)
    exact Musts.no (by decide) (fno0 _ w o ho)
  · exact Musts.yes (by decide) (fyes0 _ _ w fun w => must_has Tryz.underlying204 (by kernel_rfl) w)
  · exact Musts.yes (by decide) (fyes0 _ _ w fun w => must_has Tryz.underlying204 (by kernel_rfl) w)
  · obtain ⟨o, ho⟩ := must_lacks (t := 157) (x := 20) (v := _) Tryz.underlying204 (by kernel_rfl)
    exact Musts.no (by decide) (fno0 _ w o ho)

set_option maxRecDepth 100000 in
set_option maxHeartbeats 1000000 in
theorem fno1 (u : Value) (w : World) (o : Obj) (h : ∀ w : World, (Instr.typeAssert u 20 98 false).run Tryz.prog w = .halt (.panic (.iface 15 (.pointer (some ⟨w.heap.size, 0, none⟩)))) (w.alloc o)) : Calls Tryz.prog 192 #[.agg #[], u] w fun e w' => Pan w w' e := by
  go_enter Tryz.func192, Tryz.ntmps192
  go_wp2
  exact ⟨rfl, _, rfl, below2 w _ _⟩
set_option maxRecDepth 100000 in
set_option maxHeartbeats 1000000 in
theorem fyes1 (t : TypeId) (z : Value) (w : World) (h : ∀ w : World, (Instr.typeAssert (.iface t z) 20 98 false).run Tryz.prog w = .ok (.iface t z) w) : Calls Tryz.prog 192 #[.agg #[], .iface t z] w fun e w' => e = .returned (.iface t z) ∧ Below w.heap.size w w' := by
  go_enter Tryz.func192, Tryz.ntmps192
  go_wp2
  go_ret
  exact ⟨rfl, below1 w _⟩
theorem fmu1 : Musts 192 (fun k => impl k 1) := by
  intro k u w hk
  rcases hk.cases with ⟨h0, rfl⟩ | ⟨rfl, a, rfl⟩ | ⟨rfl, a, rfl⟩ | ⟨rfl, a, rfl⟩ | ⟨rfl, a, rfl⟩ | ⟨rfl, a, rfl⟩ | ⟨rfl, a, rfl⟩ | ⟨rfl, a, rfl⟩ | ⟨rfl, a, rfl⟩ | ⟨rfl, a, b, rfl, ha, hb⟩ | ⟨rfl, c, a, rfl⟩ | ⟨rfl, a, rfl⟩ | ⟨rfl, rfl⟩ | ⟨rfl, rfl⟩
  · obtain ⟨o, ho⟩ := must_nil (x := 20) Tryz.underlying98
    exact Musts.no (impl_no h0 1) (fno1 _ w o ho)
  · obtain ⟨o, ho⟩ := must_lacks (t := 140) (x := 20) (v := _) Tryz.underlying98 (by kernel_rfl)
    exact Musts.no (by decide) (fno1 _ w o ho)
  · exact Musts.yes (by decide) (fyes1 _ _ w fun w => must_has Tryz.underlying98 (by kernel_rfl) w)
  · obtain ⟨o, ho⟩ := must_lacks (t := 142) (x := 20) (v := _) Tryz.underlying98 (by kernel_rfl)
    exact Musts.no (by decide) (fno1 _ w o ho)
  · obtain ⟨o, ho⟩ := must_lacks (t := 101) (x := 20) (v := _) Tryz.underlying98 (by kernel_rfl)
    exact Musts.no (by decide) (fno1 _ w o ho)
  · exact Musts.yes (by decide) (fyes1 _ _ w fun w => must_has Tryz.underlying98 (by kernel_rfl) w)
  · obtain ⟨o, ho⟩ := must_lacks (t := 144) (x := 20) (v := _) Tryz.underlying98 (by kernel_rfl)
    exact Musts.no (by decide) (fno1 _ w o ho)
  · obtain ⟨o, ho⟩ := must_lacks (t := 147) (x := 20) (v := _) Tryz.underlying98 (by kernel_rfl)
    exact Musts.no (by decide) (fno1 _ w o ho)
  · obtain ⟨o, ho⟩ := must_lacks (t := 149) (x := 20) (v := _) Tryz.underlying98 (by kernel_rfl)
    exact Musts.no (by decide) (fno1 _ w o ho)
  · obtain ⟨o, ho⟩ := must_lacks (t := 152) (x := 20) (v := _) Tryz.underlying98 (by kernel_rfl)
    exact Musts.no (by decide) (fno1 _ w o ho)
  · exact Musts.yes (by decide) (fyes1 _ _ w fun w => must_has Tryz.underlying98 (by kernel_rfl) w)
  · obtain ⟨o, ho⟩ := must_lacks (t := 155) (x := 20) (v := _) Tryz.underlying98 (by kernel_rfl)
    exact Musts.no (by decide) (fno1 _ w o ho)
  · obtain ⟨o, ho⟩ := must_lacks (t := 155) (x := 20) (v := _) Tryz.underlying98 (by kernel_rfl)
    exact Musts.no (by decide) (fno1 _ w o ho)
  · obtain ⟨o, ho⟩ := must_lacks (t := 157) (x := 20) (v := _) Tryz.underlying98 (by kernel_rfl)
    exact Musts.no (by decide) (fno1 _ w o ho)

set_option maxRecDepth 100000 in
set_option maxHeartbeats 1000000 in
theorem fno2 (u : Value) (w : World) (o : Obj) (h : ∀ w : World, (Instr.typeAssert u 20 218 false).run Tryz.prog w = .halt (.panic (.iface 15 (.pointer (some ⟨w.heap.size, 0, none⟩)))) (w.alloc o)) : Calls Tryz.prog 194 #[.agg #[], u] w fun e w' => Pan w w' e := by
  go_enter Tryz.func194, Tryz.ntmps194
  go_wp2
  exact ⟨rfl, _, rfl, below2 w _ _⟩
set_option maxRecDepth 100000 in
set_option maxHeartbeats 1000000 in
theorem fyes2 (t : TypeId) (z : Value) (w : World) (h : ∀ w : World, (Instr.typeAssert (.iface t z) 20 218 false).run Tryz.prog w = .ok (.iface t z) w) : Calls Tryz.prog 194 #[.agg #[], .iface t z] w fun e w' => e = .returned (.iface t z) ∧ Below w.heap.size w w' := by
  go_enter Tryz.func194, Tryz.ntmps194
  go_wp2
  go_ret
  exact ⟨rfl, below1 w _⟩
theorem fmu2 : Musts 194 (fun k => impl k 2) := by
  intro k u w hk
  rcases hk.cases with ⟨h0, rfl⟩ | ⟨rfl, a, rfl⟩ | ⟨rfl, a, rfl⟩ | ⟨rfl, a, rfl⟩ | ⟨rfl, a, rfl⟩ | ⟨rfl, a, rfl⟩ | ⟨rfl, a, rfl⟩ | ⟨rfl, a, rfl⟩ | ⟨rfl, a, rfl⟩ | ⟨rfl, a, b, rfl, ha, hb⟩ | ⟨rfl, c, a, rfl⟩ | ⟨rfl, a, rfl⟩ | ⟨rfl, rfl⟩ | ⟨rfl, rfl⟩
  · obtain ⟨o, ho⟩ := must_nil (x := 20) Tryz.underlying218
    exact Musts.no (impl_no h0 2) (fno2 _ w o ho)
  · obtain ⟨o, ho⟩ := must_lacks (t := 140) (x := 20) (v := _) Tryz.underlying218 (by kernel_rfl)
    exact Musts.no (by decide) (fno2 _ w o ho)
  · obtain ⟨o, ho⟩ := must_lacks (t := 141) (x := 20) (v := _) Tryz.underlying218 (by kernel_rfl)
    exact Musts.no (by decide) (fno2 _ w o ho)
  · obtain ⟨o, ho⟩ := must_lacks (t := 142) (x := 20) (v := _) Tryz.underlying218 (by kernel_rfl)
    exact Musts.no (by decide) (fno2 _ w o ho)
  · obtain ⟨o, ho⟩ := must_lacks (t := 101) (x := 20) (v := _) Tryz.underlying218 (by kernel_rfl)
    exact Musts.no (by decide) (fno2 _ w o ho)
  · obtain ⟨o, ho⟩ := must_lacks (t := 143) (x := 20) (v := _) Tryz.underlying218 (by kernel_rfl)
    exact Musts.no (by decide) (fno2 _ w o ho)
  · obtain ⟨o, ho⟩ := must_lacks (t := 144) (x := 20) (v := _) Tryz.underlying218 (by kernel_rfl)
    exact Musts.no (by decide) (fno2 _ w o ho)
  · obtain ⟨o, ho⟩ := must_lacks (t := 147) (x := 20) (v := _) Tryz.underlying218 (by kernel_rfl)
    exact Musts.no (by decide) (fno2 _ w o ho)
  · obtain ⟨o, ho⟩ := must_lacks (t := 149) (x := 20) (v := _) Tryz.underlying218 (by kernel_rfl)
    exact Musts.no (by decide) (fno2 _ w o ho)
  · obtain ⟨o, ho⟩ := must_lacks (t := 152) (x := 20) (v := _) Tryz.underlying218 (by kernel_rfl)
    exact Musts.no (by decide) (fno2 _ w o ho)
  · exact Musts.yes (by decide) (fyes2 _ _ w fun w => must_has Tryz.underlying218 (by kernel_rfl) w)
  · exact Musts.yes (by decide) (fyes2 _ _ w fun w => must_has Tryz.underlying218 (by kernel_rfl) w)
  · exact Musts.yes (by decide) (fyes2 _ _ w fun w => must_has Tryz.underlying218 (by kernel_rfl) w)
  · obtain ⟨o, ho⟩ := must_lacks (t := 157) (x := 20) (v := _) Tryz.underlying218 (by kernel_rfl)
    exact Musts.no (by decide) (fno2 _ w o ho)

set_option maxRecDepth 100000 in
set_option maxHeartbeats 1000000 in
theorem fno3 (u : Value) (w : World) (o : Obj) (h : ∀ w : World, (Instr.typeAssert u 20 196 false).run Tryz.prog w = .halt (.panic (.iface 15 (.pointer (some ⟨w.heap.size, 0, none⟩)))) (w.alloc o)) : Calls Tryz.prog 196 #[.agg #[], u] w fun e w' => Pan w w' e := by
  go_enter Tryz.func196, Tryz.ntmps196
  go_wp2
  exact ⟨rfl, _, rfl, below2 w _ _⟩
set_option maxRecDepth 100000 in
set_option maxHeartbeats 1000000 in
theorem fyes3 (t : TypeId) (z : Value) (w : World) (h : ∀ w : World, (Instr.typeAssert (.iface t z) 20 196 false).run Tryz.prog w = .ok (.iface t z) w) : Calls Tryz.prog 196 #[.agg #[], .iface t z] w fun e w' => e = .returned (.iface t z) ∧ Below w.heap.size w w' := by
  go_enter Tryz.func196, Tryz.ntmps196
  go_wp2
  go_ret
  exact ⟨rfl, below1 w _⟩
theorem fmu3 : Musts 196 (fun k => impl k 3) := by
  intro k u w hk
  rcases hk.cases with ⟨h0, rfl⟩ | ⟨rfl, a, rfl⟩ | ⟨rfl, a, rfl⟩ | ⟨rfl, a, rfl⟩ | ⟨rfl, a, rfl⟩ | ⟨rfl, a, rfl⟩ | ⟨rfl, a, rfl⟩ | ⟨rfl, a, rfl⟩ | ⟨rfl, a, rfl⟩ | ⟨rfl, a, b, rfl, ha, hb⟩ | ⟨rfl, c, a, rfl⟩ | ⟨rfl, a, rfl⟩ | ⟨rfl, rfl⟩ | ⟨rfl, rfl⟩
  · obtain ⟨o, ho⟩ := must_nil (x := 20) Tryz.underlying196
    exact Musts.no (impl_no h0 3) (fno3 _ w o ho)
  · obtain ⟨o, ho⟩ := must_lacks (t := 140) (x := 20) (v := _) Tryz.underlying196 (by kernel_rfl)
    exact Musts.no (by decide) (fno3 _ w o ho)
  · obtain ⟨o, ho⟩ := must_lacks (t := 141) (x := 20) (v := _) Tryz.underlying196 (by kernel_rfl)
    exact Musts.no (by decide) (fno3 _ w o ho)
  · obtain ⟨o, ho⟩ := must_lacks (t := 142) (x := 20) (v := _) Tryz.underlying196 (by kernel_rfl)
    exact Musts.no (by decide) (fno3 _ w o ho)
  · obtain ⟨o, ho⟩ := must_lacks (t := 101) (x := 20) (v := _) Tryz.underlying196 (by kernel_rfl)
    exact Musts.no (by decide) (fno3 _ w o ho)
  · obtain ⟨o, ho⟩ := must_lacks (t := 143) (x := 20) (v := _) Tryz.underlying196 (by kernel_rfl)
    exact Musts.no (by decide) (fno3 _ w o ho)
  · obtain ⟨o, ho⟩ := must_lacks (t := 144) (x := 20) (v := _) Tryz.underlying196 (by kernel_rfl)
    exact Musts.no (by decide) (fno3 _ w o ho)
  · obtain ⟨o, ho⟩ := must_lacks (t := 147) (x := 20) (v := _) Tryz.underlying196 (by kernel_rfl)
    exact Musts.no (by decide) (fno3 _ w o ho)
  · obtain ⟨o, ho⟩ := must_lacks (t := 149) (x := 20) (v := _) Tryz.underlying196 (by kernel_rfl)
    exact Musts.no (by decide) (fno3 _ w o ho)
  · obtain ⟨o, ho⟩ := must_lacks (t := 152) (x := 20) (v := _) Tryz.underlying196 (by kernel_rfl)
    exact Musts.no (by decide) (fno3 _ w o ho)
  · obtain ⟨o, ho⟩ := must_lacks (t := 154) (x := 20) (v := _) Tryz.underlying196 (by kernel_rfl)
    exact Musts.no (by decide) (fno3 _ w o ho)
  · exact Musts.yes (by decide) (fyes3 _ _ w fun w => must_has Tryz.underlying196 (by kernel_rfl) w)
  · exact Musts.yes (by decide) (fyes3 _ _ w fun w => must_has Tryz.underlying196 (by kernel_rfl) w)
  · obtain ⟨o, ho⟩ := must_lacks (t := 157) (x := 20) (v := _) Tryz.underlying196 (by kernel_rfl)
    exact Musts.no (by decide) (fno3 _ w o ho)

set_option maxRecDepth 100000 in
set_option maxHeartbeats 1000000 in
theorem fno4 (u : Value) (w : World) (o : Obj) (h : ∀ w : World, (Instr.typeAssert u 20 222 false).run Tryz.prog w = .halt (.panic (.iface 15 (.pointer (some ⟨w.heap.size, 0, none⟩)))) (w.alloc o)) : Calls Tryz.prog 198 #[.agg #[], u] w fun e w' => Pan w w' e := by
  go_enter Tryz.func198, Tryz.ntmps198
  go_wp2
  exact ⟨rfl, _, rfl, below2 w _ _⟩
set_option maxRecDepth 100000 in
set_option maxHeartbeats 1000000 in
theorem fyes4 (t : TypeId) (z : Value) (w : World) (h : ∀ w : World, (Instr.typeAssert (.iface t z) 20 222 false).run Tryz.prog w = .ok (.iface t z) w) : Calls Tryz.prog 198 #[.agg #[], .iface t z] w fun e w' => e = .returned (.iface t z) ∧ Below w.heap.size w w' := by
  go_enter Tryz.func198, Tryz.ntmps198
  go_wp2
  go_ret
  exact ⟨rfl, below1 w _⟩
theorem fmu4 : Musts 198 (fun k => impl k 4) := by
  intro k u w hk
  rcases hk.cases with ⟨h0, rfl⟩ | ⟨rfl, a, rfl⟩ | ⟨rfl, a, rfl⟩ | ⟨rfl, a, rfl⟩ | ⟨rfl, a, rfl⟩ | ⟨rfl, a, rfl⟩ | ⟨rfl, a, rfl⟩ | ⟨rfl, a, rfl⟩ | ⟨rfl, a, rfl⟩ | ⟨rfl, a, b, rfl, ha, hb⟩ | ⟨rfl, c, a, rfl⟩ | ⟨rfl, a, rfl⟩ | ⟨rfl, rfl⟩ | ⟨rfl, rfl⟩
  · obtain ⟨o, ho⟩ := must_nil (x := 20) Tryz.underlying222
    exact Musts.no (impl_no h0 4) (fno4 _ w o ho)
  · exact Musts.yes (by decide) (fyes4 _ _ w fun w => must_has Tryz.underlying222 (by kernel_rfl) w)
  · exact Musts.yes (by decide) (fyes4 _ _ w fun w => must_has Tryz.underlying222 (by kernel_rfl) w)
  · exact Musts.yes (by decide) (fyes4 _ _ w fun w => must_has Tryz.underlying222 (by kernel_rfl) w)
  · exact Musts.yes (by decide) (fyes4 _ _ w fun w => must_has Tryz.underlying222 (by kernel_rfl) w)
  · exact Musts.yes (by decide) (fyes4 _ _ w fun w => must_has Tryz.underlying222 (by kernel_rfl) w)
  · obtain ⟨o, ho⟩ := must_lacks (t := 144) (x := 20) (v := _) Tryz.underlying222 (by kernel_rfl)
    exact Musts.no (by decide) (fno4 _ w o ho)
  · obtain ⟨o, ho⟩ := must_lacks (t := 147) (x := 20) (v := _) Tryz.underlying222 (by kernel_rfl)
    exact Musts.no (by decide) (fno4 _ w o ho)
  · obtain ⟨o, ho⟩ := must_lacks (t := 149) (x := 20) (v := _) Tryz.underlying222 (by kernel_rfl)
    exact Musts.no (by decide) (fno4 _ w o ho)
  · obtain ⟨o, ho⟩ := must_lacks (t := 152) (x := 20) (v := _) Tryz.underlying222 (by kernel_rfl)
    exact Musts.no (by decide) (fno4 _ w o ho)
  · obtain ⟨o, ho⟩ := must_lacks (t := 154) (x := 20) (v := _) Tryz.underlying222 (by kernel_rfl)
    exact Musts.no (by decide) (fno4 _ w o ho)
  · obtain ⟨o, ho⟩ := must_lacks (t := 155) (x := 20) (v := _) Tryz.underlying222 (by kernel_rfl)
    exact Musts.no (by decide) (fno4 _ w o ho)
  · obtain ⟨o, ho⟩ := must_lacks (t := 155) (x := 20) (v := _) Tryz.underlying222 (by kernel_rfl)
    exact Musts.no (by decide) (fno4 _ w o ho)
  · obtain ⟨o, ho⟩ := must_lacks (t := 157) (x := 20) (v := _) Tryz.underlying222 (by kernel_rfl)
    exact Musts.no (by decide) (fno4 _ w o ho)

set_option maxRecDepth 100000 in
set_option maxHeartbeats 1000000 in
theorem fno5 (u : Value) (w : World) (o : Obj) (h : ∀ w : World, (Instr.typeAssert u 20 136 false).run Tryz.prog w = .halt (.panic (.iface 15 (.pointer (some ⟨w.heap.size, 0, none⟩)))) (w.alloc o)) : Calls Tryz.prog 200 #[.agg #[], u] w fun e w' => Pan w w' e := by
  go_enter Tryz.func200, Tryz.ntmps200
  go_wp2
  exact ⟨rfl, _, rfl, below2 w _ _⟩
set_option maxRecDepth 100000 in
set_option maxHeartbeats 1000000 in
theorem fyes5 (t : TypeId) (z : Value) (w : World) (h : ∀ w : World, (Instr.typeAssert (.iface t z) 20 136 false).run Tryz.prog w = .ok (.iface t z) w) : Calls Tryz.prog 200 #[.agg #[], .iface t z] w fun e w' => e = .returned (.iface t z) ∧ Below w.heap.size w w' := by
  go_enter Tryz.func200, Tryz.ntmps200
  go_wp2
  go_ret
  exact ⟨rfl, below1 w _⟩
theorem fmu5 : Musts 200 (fun k => impl k 5) := by
  intro k u w hk
  rcases hk.cases with ⟨h0, rfl⟩ | ⟨rfl, a, rfl⟩ | ⟨rfl, a, rfl⟩ | ⟨rfl, a, rfl⟩ | ⟨rfl, a, rfl⟩ | ⟨rfl, a, rfl⟩ | ⟨rfl, a, rfl⟩ | ⟨rfl, a, rfl⟩ | ⟨rfl, a, rfl⟩ | ⟨rfl, a, b, rfl, ha, hb⟩ | ⟨rfl, c, a, rfl⟩ | ⟨rfl, a, rfl⟩ | ⟨rfl, rfl⟩ | ⟨rfl, rfl⟩
  · obtain ⟨o, ho⟩ := must_nil (x := 20) Tryz.underlying136
    exact Musts.no (impl_no h0 5) (fno5 _ w o ho)
  · exact Musts.yes (by decide) (fyes5 _ _ w fun w => must_has Tryz.underlying136 (by kernel_rfl) w)
  · obtain ⟨o, ho⟩ := must_lacks (t := 141) (x := 20) (v := _) Tryz.underlying136 (by kernel_rfl)
    exact Musts.no (by decide) (fno5 _ w o ho)
  · exact Musts.yes (by decide) (fyes5 _ _ w fun w => must_has Tryz.underlying136 (by kernel_rfl) w)
  · obtain ⟨o, ho⟩ := must_lacks (t := 101) (x := 20) (v := _) Tryz.underlying136 (by kernel_rfl)
    exact Musts.no (by decide) (fno5 _ w o ho)
  · obtain ⟨o, ho⟩ := must_lacks (t := 143) (x := 20) (v := _) Tryz.underlying136 (by kernel_rfl)
    exact Musts.no (by decide) (fno5 _ w o ho)
  · obtain ⟨o, ho⟩ := must_lacks (t := 144) (x := 20) (v := _) Tryz.underlying136 (by kernel_rfl)
    exact Musts.no (by decide) (fno5 _ w o ho)
  · obtain ⟨o, ho⟩ := must_lacks (t := 147) (x := 20) (v := _) Tryz.underlying136 (by kernel_rfl)
    exact Musts.no (by decide) (fno5 _ w o ho)
  · obtain ⟨o, ho⟩ := must_lacks (t := 149) (x := 20) (v := _) Tryz.underlying136 (by kernel_rfl)
    exact Musts.no (by decide) (fno5 _ w o ho)
  · obtain ⟨o, ho⟩ := must_lacks (t := 152) (x := 20) (v := _) Tryz.underlying136 (by kernel_rfl)
    exact Musts.no (by decide) (fno5 _ w o ho)
  · obtain ⟨o, ho⟩ := must_lacks (t := 154) (x := 20) (v := _) Tryz.underlying136 (by kernel_rfl)
    exact Musts.no (by decide) (fno5 _ w o ho)
  · obtain ⟨o, ho⟩ := must_lacks (t := 155) (x := 20) (v := _) Tryz.underlying136 (by kernel_rfl)
    exact Musts.no (by decide) (fno5 _ w o ho)
  · obtain ⟨o, ho⟩ := must_lacks (t := 155) (x := 20) (v := _) Tryz.underlying136 (by kernel_rfl)
    exact Musts.no (by decide) (fno5 _ w o ho)
  · obtain ⟨o, ho⟩ := must_lacks (t := 157) (x := 20) (v := _) Tryz.underlying136 (by kernel_rfl)
    exact Musts.no (by decide) (fno5 _ w o ho)

set_option maxRecDepth 100000 in
set_option maxHeartbeats 1000000 in
theorem fno6 (u : Value) (w : World) (o : Obj) (h : ∀ w : World, (Instr.typeAssert u 20 253 false).run Tryz.prog w = .halt (.panic (.iface 15 (.pointer (some ⟨w.heap.size, 0, none⟩)))) (w.alloc o)) : Calls Tryz.prog 202 #[.agg #[], u] w fun e w' => Pan w w' e := by
  go_enter Tryz.func202, Tryz.ntmps202
  go_wp2
  exact ⟨rfl, _, rfl, below2 w _ _⟩
set_option maxRecDepth 100000 in
set_option maxHeartbeats 1000000 in
theorem fyes6 (t : TypeId) (z : Value) (w : World) (h : ∀ w : World, (Instr.typeAssert (.iface t z) 20 253 false).run Tryz.prog w = .ok (.iface t z) w) : Calls Tryz.prog 202 #[.agg #[], .iface t z] w fun e w' => e = .returned (.iface t z) ∧ Below w.heap.size w w' := by
  go_enter Tryz.func202, Tryz.ntmps202
  go_wp2
  go_ret
  exact ⟨rfl, below1 w _⟩
theorem fmu6 : Musts 202 (fun k => impl k 6) := by
  intro k u w hk
  rcases hk.cases with ⟨h0, rfl⟩ | ⟨rfl, a, rfl⟩ | ⟨rfl, a, rfl⟩ | ⟨rfl, a, rfl⟩ | ⟨rfl, a, rfl⟩ | ⟨rfl, a, rfl⟩ | ⟨rfl, a, rfl⟩ | ⟨rfl, a, rfl⟩ | ⟨rfl, a, rfl⟩ | ⟨rfl, a, b, rfl, ha, hb⟩ | ⟨rfl, c, a, rfl⟩ | ⟨rfl, a, rfl⟩ | ⟨rfl, rfl⟩ | ⟨rfl, rfl⟩
  · obtain ⟨o, ho⟩ := must_nil (x := 20) Tryz.underlying253
    exact Musts.no (impl_no h0 6) (fno6 _ w o ho)
  · obtain ⟨o, ho⟩ := must_lacks (t := 140) (x := 20) (v := _) Tryz.underlying253 (by kernel_rfl)
    exact Musts.no (by decide) (fno6 _ w o ho)
  · obtain ⟨o, ho⟩ := must_lacks (t := 141) (x := 20) (v := _) Tryz.underlying253 (by kernel_rfl)
    exact Musts.no (by decide) (fno6 _ w o ho)
  · obtain ⟨o, ho⟩ := must_lacks (t := 142) (x := 20) (v := _) Tryz.underlying253 (by kernel_rfl)
    exact Musts.no (by decide) (fno6 _ w o ho)
  · obtain ⟨o, ho⟩ := must_lacks (t := 101) (x := 20) (v := _) Tryz.underlying253 (by kernel_rfl)
    exact Musts.no (by decide) (fno6 _ w o ho)
  · exact Musts.yes (by decide) (fyes6 _ _ w fun w => must_has Tryz.underlying253 (by kernel_rfl) w)
  · obtain ⟨o, ho⟩ := must_lacks (t := 144) (x := 20) (v := _) Tryz.underlying253 (by kernel_rfl)
    exact Musts.no (by decide) (fno6 _ w o ho)
  · obtain ⟨o, ho⟩ := must_lacks (t := 147) (x := 20) (v := _) Tryz.underlying253 (by kernel_rfl)
    exact Musts.no (by decide) (fno6 _ w o ho)
  · obtain ⟨o, ho⟩ := must_lacks (t := 149) (x := 20) (v := _) Tryz.underlying253 (by kernel_rfl)
    exact Musts.no (by decide) (fno6 _ w o ho)
  · obtain ⟨o, ho⟩ := must_lacks (t := 152) (x := 20) (v := _) Tryz.underlying253 (by kernel_rfl)
    exact Musts.no (by decide) (fno6 _ w o ho)
  · obtain ⟨o, ho⟩ := must_lacks (t := 154) (x := 20) (v := _) Tryz.underlying253 (by kernel_rfl)
    exact Musts.no (by decide) (fno6 _ w o ho)
  · obtain ⟨o, ho⟩ := must_lacks (t := 155) (x := 20) (v := _) Tryz.underlying253 (by kernel_rfl)
    exact Musts.no (by decide) (fno6 _ w o ho)
  · obtain ⟨o, ho⟩ := must_lacks (t := 155) (x := 20) (v := _) Tryz.underlying253 (by kernel_rfl)
    exact Musts.no (by decide) (fno6 _ w o ho)
  · obtain ⟨o, ho⟩ := must_lacks (t := 157) (x := 20) (v := _) Tryz.underlying253 (by kernel_rfl)
    exact Musts.no (by decide) (fno6 _ w o ho)

set_option maxRecDepth 100000 in
set_option maxHeartbeats 1000000 in
theorem fno7 (u : Value) (w : World) (o : Obj) (h : ∀ w : World, (Instr.typeAssert u 20 256 false).run Tryz.prog w = .halt (.panic (.iface 15 (.pointer (some ⟨w.heap.size, 0, none⟩)))) (w.alloc o)) : Calls Tryz.prog 204 #[.agg #[], u] w fun e w' => Pan w w' e := by
  go_enter Tryz.func204, Tryz.ntmps204
  go_wp2
  exact ⟨rfl, _, rfl, below2 w _ _⟩
set_option maxRecDepth 100000 in
set_option maxHeartbeats 1000000 in
theorem fyes7 (t : TypeId) (z : Value) (w : World) (h : ∀ w : World, (Instr.typeAssert (.iface t z) 20 256 false).run Tryz.prog w = .ok (.iface t z) w) : Calls Tryz.prog 204 #[.agg #[], .iface t z] w fun e w' => e = .returned (.iface t z) ∧ Below w.heap.size w w' := by
  go_enter Tryz.func204, Tryz.ntmps204
  go_wp2
  go_ret
  exact ⟨rfl, below1 w _⟩
theorem fmu7 : Musts 204 (fun k => impl k 7) := by
  intro k u w hk
  rcases hk.cases with ⟨h0, rfl⟩ | ⟨rfl, a, rfl⟩ | ⟨rfl, a, rfl⟩ | ⟨rfl, a, rfl⟩ | ⟨rfl, a, rfl⟩ | ⟨rfl, a, rfl⟩ | ⟨rfl, a, rfl⟩ | ⟨rfl, a, rfl⟩ | ⟨rfl, a, rfl⟩ | ⟨rfl, a, b, rfl, ha, hb⟩ | ⟨rfl, c, a, rfl⟩ | ⟨rfl, a, rfl⟩ | ⟨rfl, rfl⟩ | ⟨rfl, rfl⟩
  · obtain ⟨o, ho⟩ := must_nil (x := 20) Tryz.underlying256
    exact Musts.no (impl_no h0 7) (fno7 _ w o ho)
  · obtain ⟨o, ho⟩ := must_lacks (t := 140) (x := 20) (v := _) Tryz.underlying256 (by kernel_rfl)
    exact Musts.no (by decide) (fno7 _ w o ho)
  · obtain ⟨o, ho⟩ := must_lacks (t := 141) (x := 20) (v := _) Tryz.underlying256 (by kernel_rfl)
    exact Musts.no (by decide) (fno7 _ w o ho)
  · obtain ⟨o, ho⟩ := must_lacks (t := 142) (x := 20) (v := _) Tryz.underlying256 (by kernel_rfl)
    exact Musts.no (by decide) (fno7 _ w o ho)
  · exact Musts.yes (by decide) (fyes7 _ _ w fun w => must_has Tryz.underlying256 (by kernel_rfl) w)
  · exact Musts.yes (by decide) (fyes7 _ _ w fun w => must_has Tryz.underlying256 (by kernel_rfl) w)
  · obtain ⟨o, ho⟩ := must_lacks (t := 144) (x := 20) (v := _) Tryz.underlying256 (by kernel_rfl)
    exact Musts.no (by decide) (fno7 _ w o ho)
  · obtain ⟨o, ho⟩ := must_lacks (t := 147) (x := 20) (v := _) Tryz.underlying256 (by kernel_rfl)
    exact Musts.no (by decide) (fno7 _ w o ho)
  · obtain ⟨o, ho⟩ := must_lacks (t := 149) (x := 20) (v := _) Tryz.underlying256 (by kernel_rfl)
    exact Musts.no (by decide) (fno7 _ w o ho)
  · obtain ⟨o, ho⟩ := must_lacks (t := 152) (x := 20) (v := _) Tryz.underlying256 (by kernel_rfl)
    exact Musts.no (by decide) (fno7 _ w o ho)
  · obtain ⟨o, ho⟩ := must_lacks (t := 154) (x := 20) (v := _) Tryz.underlying256 (by kernel_rfl)
    exact Musts.no (by decide) (fno7 _ w o ho)
  · obtain ⟨o, ho⟩ := must_lacks (t := 155) (x := 20) (v := _) Tryz.underlying256 (by kernel_rfl)
    exact Musts.no (by decide) (fno7 _ w o ho)
  · obtain ⟨o, ho⟩ := must_lacks (t := 155) (x := 20) (v := _) Tryz.underlying256 (by kernel_rfl)
    exact Musts.no (by decide) (fno7 _ w o ho)
  · obtain ⟨o, ho⟩ := must_lacks (t := 157) (x := 20) (v := _) Tryz.underlying256 (by kernel_rfl)
    exact Musts.no (by decide) (fno7 _ w o ho)

set_option maxRecDepth 100000 in
set_option maxHeartbeats 1000000 in
theorem fno8 (u : Value) (w : World) (o : Obj) (h : ∀ w : World, (Instr.typeAssert u 20 259 false).run Tryz.prog w = .halt (.panic (.iface 15 (.pointer (some ⟨w.heap.size, 0, none⟩)))) (w.alloc o)) : Calls Tryz.prog 206 #[.agg #[], u] w fun e w' => Pan w w' e := by
  go_enter Tryz.func206, Tryz.ntmps206
  go_wp2
  exact ⟨rfl, _, rfl, below2 w _ _⟩
set_option maxRecDepth 100000 in
set_option maxHeartbeats 1000000 in
theorem fyes8 (t : TypeId) (z : Value) (w : World) (h : ∀ w : World, (Instr.typeAssert (.iface t z) 20 259 false).run Tryz.prog w = .ok (.iface t z) w) : Calls Tryz.prog 206 #[.agg #[], .iface t z] w fun e w' => e = .returned (.iface t z) ∧ Below w.heap.size w w' := by
  go_enter Tryz.func206, Tryz.ntmps206
  go_wp2
  go_ret
  exact ⟨rfl, below1 w _⟩
theorem fmu8 : Musts 206 (fun k => impl k 8) := by
  intro k u w hk
  rcases hk.cases with ⟨h0, rfl⟩ | ⟨rfl, a, rfl⟩ | ⟨rfl, a, rfl⟩ | ⟨rfl, a, rfl⟩ | ⟨rfl, a, rfl⟩ | ⟨rfl, a, rfl⟩ | ⟨rfl, a, rfl⟩ | ⟨rfl, a, rfl⟩ | ⟨rfl, a, rfl⟩ | ⟨rfl, a, b, rfl, ha, hb⟩ | ⟨rfl, c, a, rfl⟩ | ⟨rfl, a, rfl⟩ | ⟨rfl, rfl⟩ | ⟨rfl, rfl⟩
  · obtain ⟨o, ho⟩ := must_nil (x := 20) Tryz.underlying259
    exact Musts.no (impl_no h0 8) (fno8 _ w o ho)
  · exact Musts.yes (by decide) (fyes8 _ _ w fun w => must_has Tryz.underlying259 (by kernel_rfl) w)
  · obtain ⟨o, ho⟩ := must_lacks (t := 141) (x := 20) (v := _) Tryz.underlying259 (by kernel_rfl)
    exact Musts.no (by decide) (fno8 _ w o ho)
  · exact Musts.yes (by decide) (fyes8 _ _ w fun w => must_has Tryz.underlying259 (by kernel_rfl) w)
  · obtain ⟨o, ho⟩ := must_lacks (t := 101) (x := 20) (v := _) Tryz.underlying259 (by kernel_rfl)
    exact Musts.no (by decide) (fno8 _ w o ho)
  · obtain ⟨o, ho⟩ := must_lacks (t := 143) (x := 20) (v := _) Tryz.underlying259 (by kernel_rfl)
    exact Musts.no (by decide) (fno8 _ w o ho)
  · obtain ⟨o, ho⟩ := must_lacks (t := 144) (x := 20) (v := _) Tryz.underlying259 (by kernel_rfl)
    exact Musts.no (by decide) (fno8 _ w o ho)
  · obtain ⟨o, ho⟩ := must_lacks (t := 147) (x := 20) (v := _) Tryz.underlying259 (by kernel_rfl)
    exact Musts.no (by decide) (fno8 _ w o ho)
  · obtain ⟨o, ho⟩ := must_lacks (t := 149) (x := 20) (v := _) Tryz.underlying259 (by kernel_rfl)
    exact Musts.no (by decide) (fno8 _ w o ho)
  · obtain ⟨o, ho⟩ := must_lacks (t := 152) (x := 20) (v := _) Tryz.underlying259 (by kernel_rfl)
    exact Musts.no (by decide) (fno8 _ w o ho)
  · obtain ⟨o, ho⟩ := must_lacks (t := 154) (x := 20) (v := _) Tryz.underlying259 (by kernel_rfl)
    exact Musts.no (by decide) (fno8 _ w o ho)
  · obtain ⟨o, ho⟩ := must_lacks (t := 155) (x := 20) (v := _) Tryz.underlying259 (by kernel_rfl)
    exact Musts.no (by decide) (fno8 _ w o ho)
  · obtain ⟨o, ho⟩ := must_lacks (t := 155) (x := 20) (v := _) Tryz.underlying259 (by kernel_rfl)
    exact Musts.no (by decide) (fno8 _ w o ho)
  · obtain ⟨o, ho⟩ := must_lacks (t := 157) (x := 20) (v := _) Tryz.underlying259 (by kernel_rfl)
    exact Musts.no (by decide) (fno8 _ w o ho)

set_option maxRecDepth 100000 in
set_option maxHeartbeats 1000000 in
theorem fno9 (u : Value) (w : World) (o : Obj) (h : ∀ w : World, (Instr.typeAssert u 20 262 false).run Tryz.prog w = .halt (.panic (.iface 15 (.pointer (some ⟨w.heap.size, 0, none⟩)))) (w.alloc o)) : Calls Tryz.prog 208 #[.agg #[], u] w fun e w' => Pan w w' e := by
  go_enter Tryz.func208, Tryz.ntmps208
  go_wp2
  exact ⟨rfl, _, rfl, below2 w _ _⟩
set_option maxRecDepth 100000 in
set_option maxHeartbeats 1000000 in
theorem fyes9 (t : TypeId) (z : Value) (w : World) (h : ∀ w : World, (Instr.typeAssert (.iface t z) 20 262 false).run Tryz.prog w = .ok (.iface t z) w) : Calls Tryz.prog 208 #[.agg #[], .iface t z] w fun e w' => e = .returned (.iface t z) ∧ Below w.heap.size w w' := by
  go_enter Tryz.func208, Tryz.ntmps208
  go_wp2
  go_ret
  exact ⟨rfl, below1 w _⟩
theorem fmu9 : Musts 208 (fun k => impl k 9) := by
  intro k u w hk
  rcases hk.cases with ⟨h0, rfl⟩ | ⟨rfl, a, rfl⟩ | ⟨rfl, a, rfl⟩ | ⟨rfl, a, rfl⟩ | ⟨rfl, a, rfl⟩ | ⟨rfl, a, rfl⟩ | ⟨rfl, a, rfl⟩ | ⟨rfl, a, rfl⟩ | ⟨rfl, a, rfl⟩ | ⟨rfl, a, b, rfl, ha, hb⟩ | ⟨rfl, c, a, rfl⟩ | ⟨rfl, a, rfl⟩ | ⟨rfl, rfl⟩ | ⟨rfl, rfl⟩
  · obtain ⟨o, ho⟩ := must_nil (x := 20) Tryz.underlying262
    exact Musts.no (impl_no h0 9) (fno9 _ w o ho)
  · obtain ⟨o, ho⟩ := must_lacks (t := 140) (x := 20) (v := _) Tryz.underlying262 (by kernel_rfl)
    exact Musts.no (by decide) (fno9 _ w o ho)
  · obtain ⟨o, ho⟩ := must_lacks (t := 141) (x := 20) (v := _) Tryz.underlying262 (by kernel_rfl)
    exact Musts.no (by decide) (fno9 _ w o ho)
  · obtain ⟨o, ho⟩ := must_lacks (t := 142) (x := 20) (v := _) Tryz.underlying262 (by kernel_rfl)
    exact Musts.no (by decide) (fno9 _ w o ho)
  · obtain ⟨o, ho⟩ := must_lacks (t := 101) (x := 20) (v := _) Tryz.underlying262 (by kernel_rfl)
    exact Musts.no (by decide) (fno9 _ w o ho)
  · exact Musts.yes (by decide) (fyes9 _ _ w fun w => must_has Tryz.underlying262 (by kernel_rfl) w)
  · obtain ⟨o, ho⟩ := must_lacks (t := 144) (x := 20) (v := _) Tryz.underlying262 (by kernel_rfl)
    exact Musts.no (by decide) (fno9 _ w o ho)
  · obtain ⟨o, ho⟩ := must_lacks (t := 147) (x := 20) (v := _) Tryz.underlying262 (by kernel_rfl)
    exact Musts.no (by decide) (fno9 _ w o ho)
  · obtain ⟨o, ho⟩ := must_lacks (t := 149) (x := 20) (v := _) Tryz.underlying262 (by kernel_rfl)
    exact Musts.no (by decide) (fno9 _ w o ho)
  · obtain ⟨o, ho⟩ := must_lacks (t := 152) (x := 20) (v := _) Tryz.underlying262 (by kernel_rfl)
    exact Musts.no (by decide) (fno9 _ w o ho)
  · obtain ⟨o, ho⟩ := must_lacks (t := 154) (x := 20) (v := _) Tryz.underlying262 (by kernel_rfl)
    exact Musts.no (by decide) (fno9 _ w o ho)
  · obtain ⟨o, ho⟩ := must_lacks (t := 155) (x := 20) (v := _) Tryz.underlying262 (by kernel_rfl)
    exact Musts.no (by decide) (fno9 _ w o ho)
  · obtain ⟨o, ho⟩ := must_lacks (t := 155) (x := 20) (v := _) Tryz.underlying262 (by kernel_rfl)
    exact Musts.no (by decide) (fno9 _ w o ho)
  · obtain ⟨o, ho⟩ := must_lacks (t := 157) (x := 20) (v := _) Tryz.underlying262 (by kernel_rfl)
    exact Musts.no (by decide) (fno9 _ w o ho)

set_option maxRecDepth 100000 in
set_option maxHeartbeats 1000000 in
theorem fnoN (u : Value) (w : World) (o : Obj) (h : ∀ w : World, (Instr.typeAssert u 20 249 false).run Tryz.prog w = .halt (.panic (.iface 15 (.pointer (some ⟨w.heap.size, 0, none⟩)))) (w.alloc o)) : Calls Tryz.prog 185 #[.agg #[], u] w fun e w' => Pan w w' e := by
  go_enter Tryz.func185, Tryz.ntmps185
  go_wp2
  exact ⟨rfl, _, rfl, below2 w _ _⟩
theorem fmuN : Musts 185 (fun _ => false) := by
  intro k u w hk
  refine Musts.no (p := fun _ => false) (k := k) rfl ?_
  rcases hk.cases with ⟨h0, rfl⟩ | ⟨rfl, a, rfl⟩ | ⟨rfl, a, rfl⟩ | ⟨rfl, a, rfl⟩ | ⟨rfl, a, rfl⟩ | ⟨rfl, a, rfl⟩ | ⟨rfl, a, rfl⟩ | ⟨rfl, a, rfl⟩ | ⟨rfl, a, rfl⟩ | ⟨rfl, a, b, rfl, ha, hb⟩ | ⟨rfl, c, a, rfl⟩ | ⟨rfl, a, rfl⟩ | ⟨rfl, rfl⟩ | ⟨rfl, rfl⟩
  · obtain ⟨o, ho⟩ := must_nil (x := 20) Tryz.underlying249
    exact fnoN _ w o ho
  · obtain ⟨o, ho⟩ := must_ty (t := 140) (x := 20) (v := _) Tryz.underlying249 (fun m h => by cases h) (by decide)
    exact fnoN _ w o ho
  · obtain ⟨o, ho⟩ := must_ty (t := 141) (x := 20) (v := _) Tryz.underlying249 (fun m h => by cases h) (by decide)
    exact fnoN _ w o ho
  · obtain ⟨o, ho⟩ := must_ty (t := 142) (x := 20) (v := _) Tryz.underlying249 (fun m h => by cases h) (by decide)
    exact fnoN _ w o ho
  · obtain ⟨o, ho⟩ := must_ty (t := 101) (x := 20) (v := _) Tryz.underlying249 (fun m h => by cases h) (by decide)
    exact fnoN _ w o ho
  · obtain ⟨o, ho⟩ := must_ty (t := 143) (x := 20) (v := _) Tryz.underlying249 (fun m h => by cases h) (by decide)
    exact fnoN _ w o ho
  · obtain ⟨o, ho⟩ := must_ty (t := 144) (x := 20) (v := _) Tryz.underlying249 (fun m h => by cases h) (by decide)
    exact fnoN _ w o ho
  · obtain ⟨o, ho⟩ := must_ty (t := 147) (x := 20) (v := _) Tryz.underlying249 (fun m h => by cases h) (by decide)
    exact fnoN _ w o ho
  · obtain ⟨o, ho⟩ := must_ty (t := 149) (x := 20) (v := _) Tryz.underlying249 (fun m h => by cases h) (by decide)
    exact fnoN _ w o ho
  · obtain ⟨o, ho⟩ := must_ty (t := 152) (x := 20) (v := _) Tryz.underlying249 (fun m h => by cases h) (by decide)
    exact fnoN _ w o ho
  · obtain ⟨o, ho⟩ := must_ty (t := 154) (x := 20) (v := _) Tryz.underlying249 (fun m h => by cases h) (by decide)
    exact fnoN _ w o ho
  · obtain ⟨o, ho⟩ := must_ty (t := 155) (x := 20) (v := _) Tryz.underlying249 (fun m h => by cases h) (by decide)
    exact fnoN _ w o ho
  · obtain ⟨o, ho⟩ := must_ty (t := 155) (x := 20) (v := _) Tryz.underlying249 (fun m h => by cases h) (by decide)
    exact fnoN _ w o ho
  · obtain ⟨o, ho⟩ := must_ty (t := 157) (x := 20) (v := _) Tryz.underlying249 (fun m h => by cases h) (by decide)
    exact fnoN _ w o ho

/-- The question of type A and value av is asked, panicking, by function F. -/
def MethA (A : Nat) (av : Value) (F : Nat) : Prop := (∀ w : World, (method 367 A av "conduit/want.must").run Tryz.prog w = .ok (F, .agg #[]) w) ∧ ∀ (args : Array Value) (w : World), (callFunc F args).run Tryz.prog w = .ok (.enter F args) w

/-- Every interface's question is asked, panicking, by some function. -/
theorem face_musts (f : Int) : ∃ F, MethA 87 (.agg #[.iface (qfc f) (.agg #[]), .int .u8 (mbits f)]) F ∧ Musts F (fun k => impl k f) := by
  by_cases h : f < 0 ∨ 9 < f
  · have hq : qfc f = 118 := by
      unfold qfc
      rw [if_neg (show ¬ f = 0 by omega)]
      rw [if_neg (show ¬ f = 1 by omega)]
      rw [if_neg (show ¬ f = 2 by omega)]
      rw [if_neg (show ¬ f = 3 by omega)]
      rw [if_neg (show ¬ f = 4 by omega)]
      rw [if_neg (show ¬ f = 5 by omega)]
      rw [if_neg (show ¬ f = 6 by omega)]
      rw [if_neg (show ¬ f = 7 by omega)]
      rw [if_neg (show ¬ f = 8 by omega)]
      rw [if_neg (show ¬ f = 9 by omega)]
    rw [hq]
    refine ⟨185, ⟨fun _ => by kernel_rfl, fun _ _ => by kernel_rfl⟩, ?_⟩
    have : (fun k => impl k f) = fun _ => false := funext fun k => impl_none k f h
    rw [this]
    exact fmuN
  have hk : f = 0 ∨ f = 1 ∨ f = 2 ∨ f = 3 ∨ f = 4 ∨ f = 5 ∨ f = 6 ∨ f = 7 ∨ f = 8 ∨ f = 9 := by omega
  rcases hk with rfl | rfl | rfl | rfl | rfl | rfl | rfl | rfl | rfl | rfl
  · exact ⟨190, ⟨fun _ => by kernel_rfl, fun _ _ => by kernel_rfl⟩, fmu0⟩
  · exact ⟨192, ⟨fun _ => by kernel_rfl, fun _ _ => by kernel_rfl⟩, fmu1⟩
  · exact ⟨194, ⟨fun _ => by kernel_rfl, fun _ _ => by kernel_rfl⟩, fmu2⟩
  · exact ⟨196, ⟨fun _ => by kernel_rfl, fun _ _ => by kernel_rfl⟩, fmu3⟩
  · exact ⟨198, ⟨fun _ => by kernel_rfl, fun _ _ => by kernel_rfl⟩, fmu4⟩
  · exact ⟨200, ⟨fun _ => by kernel_rfl, fun _ _ => by kernel_rfl⟩, fmu5⟩
  · exact ⟨202, ⟨fun _ => by kernel_rfl, fun _ _ => by kernel_rfl⟩, fmu6⟩
  · exact ⟨204, ⟨fun _ => by kernel_rfl, fun _ _ => by kernel_rfl⟩, fmu7⟩
  · exact ⟨206, ⟨fun _ => by kernel_rfl, fun _ _ => by kernel_rfl⟩, fmu8⟩
  · exact ⟨208, ⟨fun _ => by kernel_rfl, fun _ _ => by kernel_rfl⟩, fmu9⟩
end Go.Proofs.YtajagjcfmaggiaaGreatDoor
