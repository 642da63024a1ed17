/- Each interface's question in the form that panics: the value itself, where its kind has the interface, else the panic; no condition. -/
import Derived.Test.YtokiaolgdkikiaaGreatTyp
import Derived.Test.YtokiaolgdkikiaaGreatMst
namespace Go.Proofs.YtokiaolgdkikiaaGreat
open Go.RowKit

/-- The question that function f asks gives the value where p says yes of its kind, and else panics. -/
def Musts (f : Nat) (p : Int → Bool) : Prop := ∀ (k : Int) (u : Value) (w : World), Kd k u → (p k = true → Calls Tryz.prog f #[.agg #[], u] w fun e w' => e = .returned u ∧ Below w.heap.size w w') ∧ (p k = false → Calls Tryz.prog f #[.agg #[], u] w fun e w' => Pan w w' e)
theorem Musts.yes {f : Nat} {p : Int → Bool} {k : Int} {u : Value} {w : World} (hp : p k = true) (h : Calls Tryz.prog f #[.agg #[], u] w fun e w' => e = .returned u ∧ Below w.heap.size w w') : (p k = true → Calls Tryz.prog f #[.agg #[], u] w fun e w' => e = .returned u ∧ Below w.heap.size w w') ∧ (p k = false → Calls Tryz.prog f #[.agg #[], u] w fun e w' => Pan w w' e) := ⟨fun _ => h, fun h' => by rw [hp] at h'; cases h'⟩
theorem Musts.no {f : Nat} {p : Int → Bool} {k : Int} {u : Value} {w : World} (hp : p k = false) (h : Calls Tryz.prog f #[.agg #[], u] w fun e w' => Pan w w' e) : (p k = true → Calls Tryz.prog f #[.agg #[], u] w fun e w' => e = .returned u ∧ Below w.heap.size w w') ∧ (p k = false → Calls Tryz.prog f #[.agg #[], u] w fun e w' => Pan w w' e) := ⟨fun h' => (by rw [hp] at h'; cases h'), fun _ => h⟩

set_option maxRecDepth 100000 in
set_option maxHeartbeats 1000000 in
theorem fno0 (u : Value) (w : World) (o : Obj) (h : ∀ w : World, (Instr.typeAssert u 20 132 false).run Tryz.prog w = .halt (.panic (.iface 15 (.pointer (some ⟨w.heap.size, 0, none⟩)))) (w.alloc o)) : Calls Tryz.prog 91 #[.agg #[], u] w fun e w' => Pan w w' e := by
  go_enter Tryz.func91, Tryz.ntmps91
  go_wp2
  exact ⟨rfl, _, rfl, below2 w _ _⟩
set_option maxRecDepth 100000 in
set_option maxHeartbeats 1000000 in
theorem fyes0 (t : TypeId) (z : Value) (w : World) (h : ∀ w : World, (Instr.typeAssert (.iface t z) 20 132 false).run Tryz.prog w = .ok (.iface t z) w) : Calls Tryz.prog 91 #[.agg #[], .iface t z] w fun e w' => e = .returned (.iface t z) ∧ Below w.heap.size w w' := by
  go_enter Tryz.func91, Tryz.ntmps91
  go_wp2
  go_ret
  exact ⟨rfl, below1 w _⟩
theorem fmu0 : Musts 91 (fun k => impl k 0) := by
  intro k u w hk
  rcases hk.cases with ⟨h0, rfl⟩ | ⟨rfl, a, rfl⟩ | ⟨rfl, a, rfl⟩ | ⟨rfl, a, rfl⟩ | ⟨rfl, a, rfl⟩ | ⟨rfl, a, rfl⟩ | ⟨rfl, a, rfl⟩ | ⟨rfl, a, rfl⟩ | ⟨rfl, a, rfl⟩ | ⟨rfl, a, b, rfl, ha, hb⟩ | ⟨rfl, c, a, rfl⟩ | ⟨rfl, a, rfl⟩ | ⟨rfl, rfl⟩ | ⟨rfl, rfl⟩
  · obtain ⟨o, ho⟩ := must_nil (x := 20) Tryz.underlying132
    exact Musts.no (impl_no h0 0) (fno0 _ w o ho)
  · obtain ⟨o, ho⟩ := must_lacks (t := 105) (x := 20) (v := _) Tryz.underlying132 (by kernel_rfl)
    exact Musts.no (by decide) (fno0 _ w o ho)
  · obtain ⟨o, ho⟩ := must_lacks (t := 106) (x := 20) (v := _) Tryz.underlying132 (by kernel_rfl)
    exact Musts.no (by decide) (fno0 _ w o ho)
  · obtain ⟨o, ho⟩ := must_lacks (t := 108) (x := 20) (v := _) Tryz.underlying132 (by kernel_rfl)
    exact Musts.no (by decide) (fno0 _ w o ho)
  · exact Musts.yes (by decide) (fyes0 _ _ w fun w => must_has Tryz.underlying132 (by kernel_rfl) w)
  · exact Musts.yes (by decide) (fyes0 _ _ w fun w => must_has Tryz.underlying132 (by kernel_rfl) w)
  · obtain ⟨o, ho⟩ := must_lacks (t := 112) (x := 20) (v := _) Tryz.underlying132 (by kernel_rfl)
    exact Musts.no (by decide) (fno0 _ w o ho)
  · exact Musts.yes (by decide) (fyes0 _ _ w fun w => must_has Tryz.underlying132 (by kernel_rfl) w)
  · exact Musts.yes (by decide) (fyes0 _ _ w fun w => must_has Tryz.underlying132 (by kernel_rfl) w)
  · exact Musts.yes (by decide) (fyes0 _ _ w fun w => must_has Tryz.underlying132 (by kernel_rfl) w)
  · obtain ⟨o, ho⟩ := must_lacks (t := 122) (x := 20) (v := _) Tryz.underlying132 (by kernel_rfl)
    exact Musts.no (by decide) (fno0 _ w o ho)
  · exact Musts.yes (by decide) (fyes0 _ _ w fun w => must_has Tryz.underlying132 (by kernel_rfl) w)
  · exact Musts.yes (by decide) (fyes0 _ _ w fun w => must_has Tryz.underlying132 (by kernel_rfl) w)
  · obtain ⟨o, ho⟩ := must_lacks (t := 125) (x := 20) (v := _) Tryz.underlying132 (by kernel_rfl)
    exact Musts.no (by decide) (fno0 _ w o ho)

set_option maxRecDepth 100000 in
set_option maxHeartbeats 1000000 in
theorem fno1 (u : Value) (w : World) (o : Obj) (h : ∀ w : World, (Instr.typeAssert u 20 135 false).run Tryz.prog w = .halt (.panic (.iface 15 (.pointer (some ⟨w.heap.size, 0, none⟩)))) (w.alloc o)) : Calls Tryz.prog 93 #[.agg #[], u] w fun e w' => Pan w w' e := by
  go_enter Tryz.func93, Tryz.ntmps93
  go_wp2
  exact ⟨rfl, _, rfl, below2 w _ _⟩
set_option maxRecDepth 100000 in
set_option maxHeartbeats 1000000 in
theorem fyes1 (t : TypeId) (z : Value) (w : World) (h : ∀ w : World, (Instr.typeAssert (.iface t z) 20 135 false).run Tryz.prog w = .ok (.iface t z) w) : Calls Tryz.prog 93 #[.agg #[], .iface t z] w fun e w' => e = .returned (.iface t z) ∧ Below w.heap.size w w' := by
  go_enter Tryz.func93, Tryz.ntmps93
  go_wp2
  go_ret
  exact ⟨rfl, below1 w _⟩
theorem fmu1 : Musts 93 (fun k => impl k 1) := by
  intro k u w hk
  rcases hk.cases with ⟨h0, rfl⟩ | ⟨rfl, a, rfl⟩ | ⟨rfl, a, rfl⟩ | ⟨rfl, a, rfl⟩ | ⟨rfl, a, rfl⟩ | ⟨rfl, a, rfl⟩ | ⟨rfl, a, rfl⟩ | ⟨rfl, a, rfl⟩ | ⟨rfl, a, rfl⟩ | ⟨rfl, a, b, rfl, ha, hb⟩ | ⟨rfl, c, a, rfl⟩ | ⟨rfl, a, rfl⟩ | ⟨rfl, rfl⟩ | ⟨rfl, rfl⟩
  · obtain ⟨o, ho⟩ := must_nil (x := 20) Tryz.underlying135
    exact Musts.no (impl_no h0 1) (fno1 _ w o ho)
  · obtain ⟨o, ho⟩ := must_lacks (t := 105) (x := 20) (v := _) Tryz.underlying135 (by kernel_rfl)
    exact Musts.no (by decide) (fno1 _ w o ho)
  · exact Musts.yes (by decide) (fyes1 _ _ w fun w => must_has Tryz.underlying135 (by kernel_rfl) w)
  · obtain ⟨o, ho⟩ := must_lacks (t := 108) (x := 20) (v := _) Tryz.underlying135 (by kernel_rfl)
    exact Musts.no (by decide) (fno1 _ w o ho)
  · obtain ⟨o, ho⟩ := must_lacks (t := 110) (x := 20) (v := _) Tryz.underlying135 (by kernel_rfl)
    exact Musts.no (by decide) (fno1 _ w o ho)
  · exact Musts.yes (by decide) (fyes1 _ _ w fun w => must_has Tryz.underlying135 (by kernel_rfl) w)
  · obtain ⟨o, ho⟩ := must_lacks (t := 112) (x := 20) (v := _) Tryz.underlying135 (by kernel_rfl)
    exact Musts.no (by decide) (fno1 _ w o ho)
  · obtain ⟨o, ho⟩ := must_lacks (t := 115) (x := 20) (v := _) Tryz.underlying135 (by kernel_rfl)
    exact Musts.no (by decide) (fno1 _ w o ho)
  · obtain ⟨o, ho⟩ := must_lacks (t := 117) (x := 20) (v := _) Tryz.underlying135 (by kernel_rfl)
    exact Musts.no (by decide) (fno1 _ w o ho)
  · obtain ⟨o, ho⟩ := must_lacks (t := 120) (x := 20) (v := _) Tryz.underlying135 (by kernel_rfl)
    exact Musts.no (by decide) (fno1 _ w o ho)
  · exact Musts.yes (by decide) (fyes1 _ _ w fun w => must_has Tryz.underlying135 (by kernel_rfl) w)
  · obtain ⟨o, ho⟩ := must_lacks (t := 123) (x := 20) (v := _) Tryz.underlying135 (by kernel_rfl)
    exact Musts.no (by decide) (fno1 _ w o ho)
  · obtain ⟨o, ho⟩ := must_lacks (t := 123) (x := 20) (v := _) Tryz.underlying135 (by kernel_rfl)
    exact Musts.no (by decide) (fno1 _ w o ho)
  · obtain ⟨o, ho⟩ := must_lacks (t := 125) (x := 20) (v := _) Tryz.underlying135 (by kernel_rfl)
    exact Musts.no (by decide) (fno1 _ w o ho)

set_option maxRecDepth 100000 in
set_option maxHeartbeats 1000000 in
theorem fno2 (u : Value) (w : World) (o : Obj) (h : ∀ w : World, (Instr.typeAssert u 20 138 false).run Tryz.prog w = .halt (.panic (.iface 15 (.pointer (some ⟨w.heap.size, 0, none⟩)))) (w.alloc o)) : Calls Tryz.prog 95 #[.agg #[], u] w fun e w' => Pan w w' e := by
  go_enter Tryz.func95, Tryz.ntmps95
  go_wp2
  exact ⟨rfl, _, rfl, below2 w _ _⟩
set_option maxRecDepth 100000 in
set_option maxHeartbeats 1000000 in
theorem fyes2 (t : TypeId) (z : Value) (w : World) (h : ∀ w : World, (Instr.typeAssert (.iface t z) 20 138 false).run Tryz.prog w = .ok (.iface t z) w) : Calls Tryz.prog 95 #[.agg #[], .iface t z] w fun e w' => e = .returned (.iface t z) ∧ Below w.heap.size w w' := by
  go_enter Tryz.func95, Tryz.ntmps95
  go_wp2
  go_ret
  exact ⟨rfl, below1 w _⟩
theorem fmu2 : Musts 95 (fun k => impl k 2) := by
  intro k u w hk
  rcases hk.cases with ⟨h0, rfl⟩ | ⟨rfl, a, rfl⟩ | ⟨rfl, a, rfl⟩ | ⟨rfl, a, rfl⟩ | ⟨rfl, a, rfl⟩ | ⟨rfl, a, rfl⟩ | ⟨rfl, a, rfl⟩ | ⟨rfl, a, rfl⟩ | ⟨rfl, a, rfl⟩ | ⟨rfl, a, b, rfl, ha, hb⟩ | ⟨rfl, c, a, rfl⟩ | ⟨rfl, a, rfl⟩ | ⟨rfl, rfl⟩ | ⟨rfl, rfl⟩
  · obtain ⟨o, ho⟩ := must_nil (x := 20) Tryz.underlying138
    exact Musts.no (impl_no h0 2) (fno2 _ w o ho)
  · obtain ⟨o, ho⟩ := must_lacks (t := 105) (x := 20) (v := _) Tryz.underlying138 (by kernel_rfl)
    exact Musts.no (by decide) (fno2 _ w o ho)
  · obtain ⟨o, ho⟩ := must_lacks (t := 106) (x := 20) (v := _) Tryz.underlying138 (by kernel_rfl)
    exact Musts.no (by decide) (fno2 _ w o ho)
  · obtain ⟨o, ho⟩ := must_lacks (t := 108) (x := 20) (v := _) Tryz.underlying138 (by kernel_rfl)
    exact Musts.no (by decide) (fno2 _ w o ho)
  · obtain ⟨o, ho⟩ := must_lacks (t := 110) (x := 20) (v := _) Tryz.underlying138 (by kernel_rfl)
    exact Musts.no (by decide) (fno2 _ w o ho)
  · obtain ⟨o, ho⟩ := must_lacks (t := 111) (x := 20) (v := _) Tryz.underlying138 (by kernel_rfl)
    exact Musts.no (by decide) (fno2 _ w o ho)
  · obtain ⟨o, ho⟩ := must_lacks (t := 112) (x := 20) (v := _) Tryz.underlying138 (by kernel_rfl)
    exact Musts.no (by decide) (fno2 _ w o ho)
  · obtain ⟨o, ho⟩ := must_lacks (t := 115) (x := 20) (v := _) Tryz.underlying138 (by kernel_rfl)
    exact Musts.no (by decide) (fno2 _ w o ho)
  · obtain ⟨o, ho⟩ := must_lacks (t := 117) (x := 20) (v := _) Tryz.underlying138 (by kernel_rfl)
    exact Musts.no (by decide) (fno2 _ w o ho)
  · obtain ⟨o, ho⟩ := must_lacks (t := 120) (x := 20) (v := _) Tryz.underlying138 (by kernel_rfl)
    exact Musts.no (by decide) (fno2 _ w o ho)
  · exact Musts.yes (by decide) (fyes2 _ _ w fun w => must_has Tryz.underlying138 (by kernel_rfl) w)
  · exact Musts.yes (by decide) (fyes2 _ _ w fun w => must_has Tryz.underlying138 (by kernel_rfl) w)
  · exact Musts.yes (by decide) (fyes2 _ _ w fun w => must_has Tryz.underlying138 (by kernel_rfl) w)
  · obtain ⟨o, ho⟩ := must_lacks (t := 125) (x := 20) (v := _) Tryz.underlying138 (by kernel_rfl)
    exact Musts.no (by decide) (fno2 _ w o ho)

set_option maxRecDepth 100000 in
set_option maxHeartbeats 1000000 in
theorem fno3 (u : Value) (w : World) (o : Obj) (h : ∀ w : World, (Instr.typeAssert u 20 141 false).run Tryz.prog w = .halt (.panic (.iface 15 (.pointer (some ⟨w.heap.size, 0, none⟩)))) (w.alloc o)) : Calls Tryz.prog 97 #[.agg #[], u] w fun e w' => Pan w w' e := by
  go_enter Tryz.func97, Tryz.ntmps97
  go_wp2
  exact ⟨rfl, _, rfl, below2 w _ _⟩
set_option maxRecDepth 100000 in
set_option maxHeartbeats 1000000 in
theorem fyes3 (t : TypeId) (z : Value) (w : World) (h : ∀ w : World, (Instr.typeAssert (.iface t z) 20 141 false).run Tryz.prog w = .ok (.iface t z) w) : Calls Tryz.prog 97 #[.agg #[], .iface t z] w fun e w' => e = .returned (.iface t z) ∧ Below w.heap.size w w' := by
  go_enter Tryz.func97, Tryz.ntmps97
  go_wp2
  go_ret
  exact ⟨rfl, below1 w _⟩
theorem fmu3 : Musts 97 (fun k => impl k 3) := by
  intro k u w hk
  rcases hk.cases with ⟨h0, rfl⟩ | ⟨rfl, a, rfl⟩ | ⟨rfl, a, rfl⟩ | ⟨rfl, a, rfl⟩ | ⟨rfl, a, rfl⟩ | ⟨rfl, a, rfl⟩ | ⟨rfl, a, rfl⟩ | ⟨rfl, a, rfl⟩ | ⟨rfl, a, rfl⟩ | ⟨rfl, a, b, rfl, ha, hb⟩ | ⟨rfl, c, a, rfl⟩ | ⟨rfl, a, rfl⟩ | ⟨rfl, rfl⟩ | ⟨rfl, rfl⟩
  · obtain ⟨o, ho⟩ := must_nil (x := 20) Tryz.underlying141
    exact Musts.no (impl_no h0 3) (fno3 _ w o ho)
  · obtain ⟨o, ho⟩ := must_lacks (t := 105) (x := 20) (v := _) Tryz.underlying141 (by kernel_rfl)
    exact Musts.no (by decide) (fno3 _ w o ho)
  · obtain ⟨o, ho⟩ := must_lacks (t := 106) (x := 20) (v := _) Tryz.underlying141 (by kernel_rfl)
    exact Musts.no (by decide) (fno3 _ w o ho)
  · obtain ⟨o, ho⟩ := must_lacks (t := 108) (x := 20) (v := _) Tryz.underlying141 (by kernel_rfl)
    exact Musts.no (by decide) (fno3 _ w o ho)
  · obtain ⟨o, ho⟩ := must_lacks (t := 110) (x := 20) (v := _) Tryz.underlying141 (by kernel_rfl)
    exact Musts.no (by decide) (fno3 _ w o ho)
  · obtain ⟨o, ho⟩ := must_lacks (t := 111) (x := 20) (v := _) Tryz.underlying141 (by kernel_rfl)
    exact Musts.no (by decide) (fno3 _ w o ho)
  · obtain ⟨o, ho⟩ := must_lacks (t := 112) (x := 20) (v := _) Tryz.underlying141 (by kernel_rfl)
    exact Musts.no (by decide) (fno3 _ w o ho)
  · obtain ⟨o, ho⟩ := must_lacks (t := 115) (x := 20) (v := _) Tryz.underlying141 (by kernel_rfl)
    exact Musts.no (by decide) (fno3 _ w o ho)
  · obtain ⟨o, ho⟩ := must_lacks (t := 117) (x := 20) (v := _) Tryz.underlying141 (by kernel_rfl)
    exact Musts.no (by decide) (fno3 _ w o ho)
  · obtain ⟨o, ho⟩ := must_lacks (t := 120) (x := 20) (v := _) Tryz.underlying141 (by kernel_rfl)
    exact Musts.no (by decide) (fno3 _ w o ho)
  · obtain ⟨o, ho⟩ := must_lacks (t := 122) (x := 20) (v := _) Tryz.underlying141 (by kernel_rfl)
    exact Musts.no (by decide) (fno3 _ w o ho)
  · exact Musts.yes (by decide) (fyes3 _ _ w fun w => must_has Tryz.underlying141 (by kernel_rfl) w)
  · exact Musts.yes (by decide) (fyes3 _ _ w fun w => must_has Tryz.underlying141 (by kernel_rfl) w)
  · obtain ⟨o, ho⟩ := must_lacks (t := 125) (x := 20) (v := _) Tryz.underlying141 (by kernel_rfl)
    exact Musts.no (by decide) (fno3 _ w o ho)

set_option maxRecDepth 100000 in
set_option maxHeartbeats 1000000 in
theorem fno4 (u : Value) (w : World) (o : Obj) (h : ∀ w : World, (Instr.typeAssert u 20 144 false).run Tryz.prog w = .halt (.panic (.iface 15 (.pointer (some ⟨w.heap.size, 0, none⟩)))) (w.alloc o)) : Calls Tryz.prog 99 #[.agg #[], u] w fun e w' => Pan w w' e := by
  go_enter Tryz.func99, Tryz.ntmps99
  go_wp2
  exact ⟨rfl, _, rfl, below2 w _ _⟩
set_option maxRecDepth 100000 in
set_option maxHeartbeats 1000000 in
theorem fyes4 (t : TypeId) (z : Value) (w : World) (h : ∀ w : World, (Instr.typeAssert (.iface t z) 20 144 false).run Tryz.prog w = .ok (.iface t z) w) : Calls Tryz.prog 99 #[.agg #[], .iface t z] w fun e w' => e = .returned (.iface t z) ∧ Below w.heap.size w w' := by
  go_enter Tryz.func99, Tryz.ntmps99
  go_wp2
  go_ret
  exact ⟨rfl, below1 w _⟩
theorem fmu4 : Musts 99 (fun k => impl k 4) := by
  intro k u w hk
  rcases hk.cases with ⟨h0, rfl⟩ | ⟨rfl, a, rfl⟩ | ⟨rfl, a, rfl⟩ | ⟨rfl, a, rfl⟩ | ⟨rfl, a, rfl⟩ | ⟨rfl, a, rfl⟩ | ⟨rfl, a, rfl⟩ | ⟨rfl, a, rfl⟩ | ⟨rfl, a, rfl⟩ | ⟨rfl, a, b, rfl, ha, hb⟩ | ⟨rfl, c, a, rfl⟩ | ⟨rfl, a, rfl⟩ | ⟨rfl, rfl⟩ | ⟨rfl, rfl⟩
  · obtain ⟨o, ho⟩ := must_nil (x := 20) Tryz.underlying144
    exact Musts.no (impl_no h0 4) (fno4 _ w o ho)
  · exact Musts.yes (by decide) (fyes4 _ _ w fun w => must_has Tryz.underlying144 (by kernel_rfl) w)
  · exact Musts.yes (by decide) (fyes4 _ _ w fun w => must_has Tryz.underlying144 (by kernel_rfl) w)
  · exact Musts.yes (by decide) (fyes4 _ _ w fun w => must_has Tryz.underlying144 (by kernel_rfl) w)
  · exact Musts.yes (by decide) (fyes4 _ _ w fun w => must_has Tryz.underlying144 (by kernel_rfl) w)
  · exact Musts.yes (by decide) (fyes4 _ _ w fun w => must_has Tryz.underlying144 (by kernel_rfl) w)
  · obtain ⟨o, ho⟩ := must_lacks (t := 112) (x := 20) (v := _) Tryz.underlying144 (by kernel_rfl)
    exact Musts.no (by decide) (fno4 _ w o ho)
  · obtain ⟨o, ho⟩ := must_lacks (t := 115) (x := 20) (v := _) Tryz.underlying144 (by kernel_rfl)
    exact Musts.no (by decide) (fno4 _ w o ho)
  · obtain ⟨o, ho⟩ := must_lacks (t := 117) (x := 20) (v := _) Tryz.underlying144 (by kernel_rfl)
    exact Musts.no (by decide) (fno4 _ w o ho)
  · obtain ⟨o, ho⟩ := must_lacks (t := 120) (x := 20) (v := _) Tryz.underlying144 (by kernel_rfl)
    exact Musts.no (by decide) (fno4 _ w o ho)
  · obtain ⟨o, ho⟩ := must_lacks (t := 122) (x := 20) (v := _) Tryz.underlying144 (by kernel_rfl)
    exact Musts.no (by decide) (fno4 _ w o ho)
  · obtain ⟨o, ho⟩ := must_lacks (t := 123) (x := 20) (v := _) Tryz.underlying144 (by kernel_rfl)
    exact Musts.no (by decide) (fno4 _ w o ho)
  · obtain ⟨o, ho⟩ := must_lacks (t := 123) (x := 20) (v := _) Tryz.underlying144 (by kernel_rfl)
    exact Musts.no (by decide) (fno4 _ w o ho)
  · obtain ⟨o, ho⟩ := must_lacks (t := 125) (x := 20) (v := _) Tryz.underlying144 (by kernel_rfl)
    exact Musts.no (by decide) (fno4 _ w o ho)

set_option maxRecDepth 100000 in
set_option maxHeartbeats 1000000 in
theorem fno5 (u : Value) (w : World) (o : Obj) (h : ∀ w : World, (Instr.typeAssert u 20 147 false).run Tryz.prog w = .halt (.panic (.iface 15 (.pointer (some ⟨w.heap.size, 0, none⟩)))) (w.alloc o)) : Calls Tryz.prog 101 #[.agg #[], u] w fun e w' => Pan w w' e := by
  go_enter Tryz.func101, Tryz.ntmps101
  go_wp2
  exact ⟨rfl, _, rfl, below2 w _ _⟩
set_option maxRecDepth 100000 in
set_option maxHeartbeats 1000000 in
theorem fyes5 (t : TypeId) (z : Value) (w : World) (h : ∀ w : World, (Instr.typeAssert (.iface t z) 20 147 false).run Tryz.prog w = .ok (.iface t z) w) : Calls Tryz.prog 101 #[.agg #[], .iface t z] w fun e w' => e = .returned (.iface t z) ∧ Below w.heap.size w w' := by
  go_enter Tryz.func101, Tryz.ntmps101
  go_wp2
  go_ret
  exact ⟨rfl, below1 w _⟩
theorem fmu5 : Musts 101 (fun k => impl k 5) := by
  intro k u w hk
  rcases hk.cases with ⟨h0, rfl⟩ | ⟨rfl, a, rfl⟩ | ⟨rfl, a, rfl⟩ | ⟨rfl, a, rfl⟩ | ⟨rfl, a, rfl⟩ | ⟨rfl, a, rfl⟩ | ⟨rfl, a, rfl⟩ | ⟨rfl, a, rfl⟩ | ⟨rfl, a, rfl⟩ | ⟨rfl, a, b, rfl, ha, hb⟩ | ⟨rfl, c, a, rfl⟩ | ⟨rfl, a, rfl⟩ | ⟨rfl, rfl⟩ | ⟨rfl, rfl⟩
  · obtain ⟨o, ho⟩ := must_nil (x := 20) Tryz.underlying147
    exact Musts.no (impl_no h0 5) (fno5 _ w o ho)
  · exact Musts.yes (by decide) (fyes5 _ _ w fun w => must_has Tryz.underlying147 (by kernel_rfl) w)
  · obtain ⟨o, ho⟩ := must_lacks (t := 106) (x := 20) (v := _) Tryz.underlying147 (by kernel_rfl)
    exact Musts.no (by decide) (fno5 _ w o ho)
  · exact Musts.yes (by decide) (fyes5 _ _ w fun w => must_has Tryz.underlying147 (by kernel_rfl) w)
  · obtain ⟨o, ho⟩ := must_lacks (t := 110) (x := 20) (v := _) Tryz.underlying147 (by kernel_rfl)
    exact Musts.no (by decide) (fno5 _ w o ho)
  · obtain ⟨o, ho⟩ := must_lacks (t := 111) (x := 20) (v := _) Tryz.underlying147 (by kernel_rfl)
    exact Musts.no (by decide) (fno5 _ w o ho)
  · obtain ⟨o, ho⟩ := must_lacks (t := 112) (x := 20) (v := _) Tryz.underlying147 (by kernel_rfl)
    exact Musts.no (by decide) (fno5 _ w o ho)
  · obtain ⟨o, ho⟩ := must_lacks (t := 115) (x := 20) (v := _) Tryz.underlying147 (by kernel_rfl)
    exact Musts.no (by decide) (fno5 _ w o ho)
  · obtain ⟨o, ho⟩ := must_lacks (t := 117) (x := 20) (v := _) Tryz.underlying147 (by kernel_rfl)
    exact Musts.no (by decide) (fno5 _ w o ho)
  · obtain ⟨o, ho⟩ := must_lacks (t := 120) (x := 20) (v := _) Tryz.underlying147 (by kernel_rfl)
    exact Musts.no (by decide) (fno5 _ w o ho)
  · obtain ⟨o, ho⟩ := must_lacks (t := 122) (x := 20) (v := _) Tryz.underlying147 (by kernel_rfl)
    exact Musts.no (by decide) (fno5 _ w o ho)
  · obtain ⟨o, ho⟩ := must_lacks (t := 123) (x := 20) (v := _) Tryz.underlying147 (by kernel_rfl)
    exact Musts.no (by decide) (fno5 _ w o ho)
  · obtain ⟨o, ho⟩ := must_lacks (t := 123) (x := 20) (v := _) Tryz.underlying147 (by kernel_rfl)
    exact Musts.no (by decide) (fno5 _ w o ho)
  · obtain ⟨o, ho⟩ := must_lacks (t := 125) (x := 20) (v := _) Tryz.underlying147 (by kernel_rfl)
    exact Musts.no (by decide) (fno5 _ w o ho)

set_option maxRecDepth 100000 in
set_option maxHeartbeats 1000000 in
theorem fno6 (u : Value) (w : World) (o : Obj) (h : ∀ w : World, (Instr.typeAssert u 20 171 false).run Tryz.prog w = .halt (.panic (.iface 15 (.pointer (some ⟨w.heap.size, 0, none⟩)))) (w.alloc o)) : Calls Tryz.prog 103 #[.agg #[], u] w fun e w' => Pan w w' e := by
  go_enter Tryz.func103, Tryz.ntmps103
  go_wp2
  exact ⟨rfl, _, rfl, below2 w _ _⟩
set_option maxRecDepth 100000 in
set_option maxHeartbeats 1000000 in
theorem fyes6 (t : TypeId) (z : Value) (w : World) (h : ∀ w : World, (Instr.typeAssert (.iface t z) 20 171 false).run Tryz.prog w = .ok (.iface t z) w) : Calls Tryz.prog 103 #[.agg #[], .iface t z] w fun e w' => e = .returned (.iface t z) ∧ Below w.heap.size w w' := by
  go_enter Tryz.func103, Tryz.ntmps103
  go_wp2
  go_ret
  exact ⟨rfl, below1 w _⟩
theorem fmu6 : Musts 103 (fun k => impl k 6) := by
  intro k u w hk
  rcases hk.cases with ⟨h0, rfl⟩ | ⟨rfl, a, rfl⟩ | ⟨rfl, a, rfl⟩ | ⟨rfl, a, rfl⟩ | ⟨rfl, a, rfl⟩ | ⟨rfl, a, rfl⟩ | ⟨rfl, a, rfl⟩ | ⟨rfl, a, rfl⟩ | ⟨rfl, a, rfl⟩ | ⟨rfl, a, b, rfl, ha, hb⟩ | ⟨rfl, c, a, rfl⟩ | ⟨rfl, a, rfl⟩ | ⟨rfl, rfl⟩ | ⟨rfl, rfl⟩
  · obtain ⟨o, ho⟩ := must_nil (x := 20) Tryz.underlying171
    exact Musts.no (impl_no h0 6) (fno6 _ w o ho)
  · obtain ⟨o, ho⟩ := must_lacks (t := 105) (x := 20) (v := _) Tryz.underlying171 (by kernel_rfl)
    exact Musts.no (by decide) (fno6 _ w o ho)
  · obtain ⟨o, ho⟩ := must_lacks (t := 106) (x := 20) (v := _) Tryz.underlying171 (by kernel_rfl)
    exact Musts.no (by decide) (fno6 _ w o ho)
  · obtain ⟨o, ho⟩ := must_lacks (t := 108) (x := 20) (v := _) Tryz.underlying171 (by kernel_rfl)
    exact Musts.no (by decide) (fno6 _ w o ho)
  · obtain ⟨o, ho⟩ := must_lacks (t := 110) (x := 20) (v := _) Tryz.underlying171 (by kernel_rfl)
    exact Musts.no (by decide) (fno6 _ w o ho)
  · exact Musts.yes (by decide) (fyes6 _ _ w fun w => must_has Tryz.underlying171 (by kernel_rfl) w)
  · obtain ⟨o, ho⟩ := must_lacks (t := 112) (x := 20) (v := _) Tryz.underlying171 (by kernel_rfl)
    exact Musts.no (by decide) (fno6 _ w o ho)
  · obtain ⟨o, ho⟩ := must_lacks (t := 115) (x := 20) (v := _) Tryz.underlying171 (by kernel_rfl)
    exact Musts.no (by decide) (fno6 _ w o ho)
  · obtain ⟨o, ho⟩ := must_lacks (t := 117) (x := 20) (v := _) Tryz.underlying171 (by kernel_rfl)
    exact Musts.no (by decide) (fno6 _ w o ho)
  · obtain ⟨o, ho⟩ := must_lacks (t := 120) (x := 20) (v := _) Tryz.underlying171 (by kernel_rfl)
    exact Musts.no (by decide) (fno6 _ w o ho)
  · obtain ⟨o, ho⟩ := must_lacks (t := 122) (x := 20) (v := _) Tryz.underlying171 (by kernel_rfl)
    exact Musts.no (by decide) (fno6 _ w o ho)
  · obtain ⟨o, ho⟩ := must_lacks (t := 123) (x := 20) (v := _) Tryz.underlying171 (by kernel_rfl)
    exact Musts.no (by decide) (fno6 _ w o ho)
  · obtain ⟨o, ho⟩ := must_lacks (t := 123) (x := 20) (v := _) Tryz.underlying171 (by kernel_rfl)
    exact Musts.no (by decide) (fno6 _ w o ho)
  · obtain ⟨o, ho⟩ := must_lacks (t := 125) (x := 20) (v := _) Tryz.underlying171 (by kernel_rfl)
    exact Musts.no (by decide) (fno6 _ w o ho)

set_option maxRecDepth 100000 in
set_option maxHeartbeats 1000000 in
theorem fno7 (u : Value) (w : World) (o : Obj) (h : ∀ w : World, (Instr.typeAssert u 20 174 false).run Tryz.prog w = .halt (.panic (.iface 15 (.pointer (some ⟨w.heap.size, 0, none⟩)))) (w.alloc o)) : Calls Tryz.prog 105 #[.agg #[], u] w fun e w' => Pan w w' e := by
  go_enter Tryz.func105, Tryz.ntmps105
  go_wp2
  exact ⟨rfl, _, rfl, below2 w _ _⟩
set_option maxRecDepth 100000 in
set_option maxHeartbeats 1000000 in
theorem fyes7 (t : TypeId) (z : Value) (w : World) (h : ∀ w : World, (Instr.typeAssert (.iface t z) 20 174 false).run Tryz.prog w = .ok (.iface t z) w) : Calls Tryz.prog 105 #[.agg #[], .iface t z] w fun e w' => e = .returned (.iface t z) ∧ Below w.heap.size w w' := by
  go_enter Tryz.func105, Tryz.ntmps105
  go_wp2
  go_ret
  exact ⟨rfl, below1 w _⟩
theorem fmu7 : Musts 105 (fun k => impl k 7) := by
  intro k u w hk
  rcases hk.cases with ⟨h0, rfl⟩ | ⟨rfl, a, rfl⟩ | ⟨rfl, a, rfl⟩ | ⟨rfl, a, rfl⟩ | ⟨rfl, a, rfl⟩ | ⟨rfl, a, rfl⟩ | ⟨rfl, a, rfl⟩ | ⟨rfl, a, rfl⟩ | ⟨rfl, a, rfl⟩ | ⟨rfl, a, b, rfl, ha, hb⟩ | ⟨rfl, c, a, rfl⟩ | ⟨rfl, a, rfl⟩ | ⟨rfl, rfl⟩ | ⟨rfl, rfl⟩
  · obtain ⟨o, ho⟩ := must_nil (x := 20) Tryz.underlying174
    exact Musts.no (impl_no h0 7) (fno7 _ w o ho)
  · obtain ⟨o, ho⟩ := must_lacks (t := 105) (x := 20) (v := _) Tryz.underlying174 (by kernel_rfl)
    exact Musts.no (by decide) (fno7 _ w o ho)
  · obtain ⟨o, ho⟩ := must_lacks (t := 106) (x := 20) (v := _) Tryz.underlying174 (by kernel_rfl)
    exact Musts.no (by decide) (fno7 _ w o ho)
  · obtain ⟨o, ho⟩ := must_lacks (t := 108) (x := 20) (v := _) Tryz.underlying174 (by kernel_rfl)
    exact Musts.no (by decide) (fno7 _ w o ho)
  · exact Musts.yes (by decide) (fyes7 _ _ w fun w => must_has Tryz.underlying174 (by kernel_rfl) w)
  · exact Musts.yes (by decide) (fyes7 _ _ w fun w => must_has Tryz.underlying174 (by kernel_rfl) w)
  · obtain ⟨o, ho⟩ := must_lacks (t := 112) (x := 20) (v := _) Tryz.underlying174 (by kernel_rfl)
    exact Musts.no (by decide) (fno7 _ w o ho)
  · obtain ⟨o, ho⟩ := must_lacks (t := 115) (x := 20) (v := _) Tryz.underlying174 (by kernel_rfl)
    exact Musts.no (by decide) (fno7 _ w o ho)
  · obtain ⟨o, ho⟩ := must_lacks (t := 117) (x := 20) (v := _) Tryz.underlying174 (by kernel_rfl)
    exact Musts.no (by decide) (fno7 _ w o ho)
  · obtain ⟨o, ho⟩ := must_lacks (t := 120) (x := 20) (v := _) Tryz.underlying174 (by kernel_rfl)
    exact Musts.no (by decide) (fno7 _ w o ho)
  · obtain ⟨o, ho⟩ := must_lacks (t := 122) (x := 20) (v := _) Tryz.underlying174 (by kernel_rfl)
    exact Musts.no (by decide) (fno7 _ w o ho)
  · obtain ⟨o, ho⟩ := must_lacks (t := 123) (x := 20) (v := _) Tryz.underlying174 (by kernel_rfl)
    exact Musts.no (by decide) (fno7 _ w o ho)
  · obtain ⟨o, ho⟩ := must_lacks (t := 123) (x := 20) (v := _) Tryz.underlying174 (by kernel_rfl)
    exact Musts.no (by decide) (fno7 _ w o ho)
  · obtain ⟨o, ho⟩ := must_lacks (t := 125) (x := 20) (v := _) Tryz.underlying174 (by kernel_rfl)
    exact Musts.no (by decide) (fno7 _ w o ho)

set_option maxRecDepth 100000 in
set_option maxHeartbeats 1000000 in
theorem fno8 (u : Value) (w : World) (o : Obj) (h : ∀ w : World, (Instr.typeAssert u 20 177 false).run Tryz.prog w = .halt (.panic (.iface 15 (.pointer (some ⟨w.heap.size, 0, none⟩)))) (w.alloc o)) : Calls Tryz.prog 107 #[.agg #[], u] w fun e w' => Pan w w' e := by
  go_enter Tryz.func107, Tryz.ntmps107
  go_wp2
  exact ⟨rfl, _, rfl, below2 w _ _⟩
set_option maxRecDepth 100000 in
set_option maxHeartbeats 1000000 in
theorem fyes8 (t : TypeId) (z : Value) (w : World) (h : ∀ w : World, (Instr.typeAssert (.iface t z) 20 177 false).run Tryz.prog w = .ok (.iface t z) w) : Calls Tryz.prog 107 #[.agg #[], .iface t z] w fun e w' => e = .returned (.iface t z) ∧ Below w.heap.size w w' := by
  go_enter Tryz.func107, Tryz.ntmps107
  go_wp2
  go_ret
  exact ⟨rfl, below1 w _⟩
theorem fmu8 : Musts 107 (fun k => impl k 8) := by
  intro k u w hk
  rcases hk.cases with ⟨h0, rfl⟩ | ⟨rfl, a, rfl⟩ | ⟨rfl, a, rfl⟩ | ⟨rfl, a, rfl⟩ | ⟨rfl, a, rfl⟩ | ⟨rfl, a, rfl⟩ | ⟨rfl, a, rfl⟩ | ⟨rfl, a, rfl⟩ | ⟨rfl, a, rfl⟩ | ⟨rfl, a, b, rfl, ha, hb⟩ | ⟨rfl, c, a, rfl⟩ | ⟨rfl, a, rfl⟩ | ⟨rfl, rfl⟩ | ⟨rfl, rfl⟩
  · obtain ⟨o, ho⟩ := must_nil (x := 20) Tryz.underlying177
    exact Musts.no (impl_no h0 8) (fno8 _ w o ho)
  · exact Musts.yes (by decide) (fyes8 _ _ w fun w => must_has Tryz.underlying177 (by kernel_rfl) w)
  · obtain ⟨o, ho⟩ := must_lacks (t := 106) (x := 20) (v := _) Tryz.underlying177 (by kernel_rfl)
    exact Musts.no (by decide) (fno8 _ w o ho)
  · exact Musts.yes (by decide) (fyes8 _ _ w fun w => must_has Tryz.underlying177 (by kernel_rfl) w)
  · obtain ⟨o, ho⟩ := must_lacks (t := 110) (x := 20) (v := _) Tryz.underlying177 (by kernel_rfl)
    exact Musts.no (by decide) (fno8 _ w o ho)
  · obtain ⟨o, ho⟩ := must_lacks (t := 111) (x := 20) (v := _) Tryz.underlying177 (by kernel_rfl)
    exact Musts.no (by decide) (fno8 _ w o ho)
  · obtain ⟨o, ho⟩ := must_lacks (t := 112) (x := 20) (v := _) Tryz.underlying177 (by kernel_rfl)
    exact Musts.no (by decide) (fno8 _ w o ho)
  · obtain ⟨o, ho⟩ := must_lacks (t := 115) (x := 20) (v := _) Tryz.underlying177 (by kernel_rfl)
    exact Musts.no (by decide) (fno8 _ w o ho)
  · obtain ⟨o, ho⟩ := must_lacks (t := 117) (x := 20) (v := _) Tryz.underlying177 (by kernel_rfl)
    exact Musts.no (by decide) (fno8 _ w o ho)
  · obtain ⟨o, ho⟩ := must_lacks (t := 120) (x := 20) (v := _) Tryz.underlying177 (by kernel_rfl)
    exact Musts.no (by decide) (fno8 _ w o ho)
  · obtain ⟨o, ho⟩ := must_lacks (t := 122) (x := 20) (v := _) Tryz.underlying177 (by kernel_rfl)
    exact Musts.no (by decide) (fno8 _ w o ho)
  · obtain ⟨o, ho⟩ := must_lacks (t := 123) (x := 20) (v := _) Tryz.underlying177 (by kernel_rfl)
    exact Musts.no (by decide) (fno8 _ w o ho)
  · obtain ⟨o, ho⟩ := must_lacks (t := 123) (x := 20) (v := _) Tryz.underlying177 (by kernel_rfl)
    exact Musts.no (by decide) (fno8 _ w o ho)
  · obtain ⟨o, ho⟩ := must_lacks (t := 125) (x := 20) (v := _) Tryz.underlying177 (by kernel_rfl)
    exact Musts.no (by decide) (fno8 _ w o ho)

set_option maxRecDepth 100000 in
set_option maxHeartbeats 1000000 in
theorem fno9 (u : Value) (w : World) (o : Obj) (h : ∀ w : World, (Instr.typeAssert u 20 180 false).run Tryz.prog w = .halt (.panic (.iface 15 (.pointer (some ⟨w.heap.size, 0, none⟩)))) (w.alloc o)) : Calls Tryz.prog 109 #[.agg #[], u] w fun e w' => Pan w w' e := by
  go_enter Tryz.func109, Tryz.ntmps109
  go_wp2
  exact ⟨rfl, _, rfl, below2 w _ _⟩
set_option maxRecDepth 100000 in
set_option maxHeartbeats 1000000 in
theorem fyes9 (t : TypeId) (z : Value) (w : World) (h : ∀ w : World, (Instr.typeAssert (.iface t z) 20 180 false).run Tryz.prog w = .ok (.iface t z) w) : Calls Tryz.prog 109 #[.agg #[], .iface t z] w fun e w' => e = .returned (.iface t z) ∧ Below w.heap.size w w' := by
  go_enter Tryz.func109, Tryz.ntmps109
  go_wp2
  go_ret
  exact ⟨rfl, below1 w _⟩
theorem fmu9 : Musts 109 (fun k => impl k 9) := by
  intro k u w hk
  rcases hk.cases with ⟨h0, rfl⟩ | ⟨rfl, a, rfl⟩ | ⟨rfl, a, rfl⟩ | ⟨rfl, a, rfl⟩ | ⟨rfl, a, rfl⟩ | ⟨rfl, a, rfl⟩ | ⟨rfl, a, rfl⟩ | ⟨rfl, a, rfl⟩ | ⟨rfl, a, rfl⟩ | ⟨rfl, a, b, rfl, ha, hb⟩ | ⟨rfl, c, a, rfl⟩ | ⟨rfl, a, rfl⟩ | ⟨rfl, rfl⟩ | ⟨rfl, rfl⟩
  · obtain ⟨o, ho⟩ := must_nil (x := 20) Tryz.underlying180
    exact Musts.no (impl_no h0 9) (fno9 _ w o ho)
  · obtain ⟨o, ho⟩ := must_lacks (t := 105) (x := 20) (v := _) Tryz.underlying180 (by kernel_rfl)
    exact Musts.no (by decide) (fno9 _ w o ho)
  · obtain ⟨o, ho⟩ := must_lacks (t := 106) (x := 20) (v := _) Tryz.underlying180 (by kernel_rfl)
    exact Musts.no (by decide) (fno9 _ w o ho)
  · obtain ⟨o, ho⟩ := must_lacks (t := 108) (x := 20) (v := _) Tryz.underlying180 (by kernel_rfl)
    exact Musts.no (by decide) (fno9 _ w o ho)
  · obtain ⟨o, ho⟩ := must_lacks (t := 110) (x := 20) (v := _) Tryz.underlying180 (by kernel_rfl)
    exact Musts.no (by decide) (fno9 _ w o ho)
  · exact Musts.yes (by decide) (fyes9 _ _ w fun w => must_has Tryz.underlying180 (by kernel_rfl) w)
  · obtain ⟨o, ho⟩ := must_lacks (t := 112) (x := 20) (v := _) Tryz.underlying180 (by kernel_rfl)
    exact Musts.no (by decide) (fno9 _ w o ho)
  · obtain ⟨o, ho⟩ := must_lacks (t := 115) (x := 20) (v := _) Tryz.underlying180 (by kernel_rfl)
    exact Musts.no (by decide) (fno9 _ w o ho)
  · obtain ⟨o, ho⟩ := must_lacks (t := 117) (x := 20) (v := _) Tryz.underlying180 (by kernel_rfl)
    exact Musts.no (by decide) (fno9 _ w o ho)
  · obtain ⟨o, ho⟩ := must_lacks (t := 120) (x := 20) (v := _) Tryz.underlying180 (by kernel_rfl)
    exact Musts.no (by decide) (fno9 _ w o ho)
  · obtain ⟨o, ho⟩ := must_lacks (t := 122) (x := 20) (v := _) Tryz.underlying180 (by kernel_rfl)
    exact Musts.no (by decide) (fno9 _ w o ho)
  · obtain ⟨o, ho⟩ := must_lacks (t := 123) (x := 20) (v := _) Tryz.underlying180 (by kernel_rfl)
    exact Musts.no (by decide) (fno9 _ w o ho)
  · obtain ⟨o, ho⟩ := must_lacks (t := 123) (x := 20) (v := _) Tryz.underlying180 (by kernel_rfl)
    exact Musts.no (by decide) (fno9 _ w o ho)
  · obtain ⟨o, ho⟩ := must_lacks (t := 125) (x := 20) (v := _) Tryz.underlying180 (by kernel_rfl)
    exact Musts.no (by decide) (fno9 _ w o ho)

set_option maxRecDepth 100000 in
set_option maxHeartbeats 1000000 in
theorem fnoN (u : Value) (w : World) (o : Obj) (h : ∀ w : World, (Instr.typeAssert u 20 182 false).run Tryz.prog w = .halt (.panic (.iface 15 (.pointer (some ⟨w.heap.size, 0, none⟩)))) (w.alloc o)) : Calls Tryz.prog 111 #[.agg #[], u] w fun e w' => Pan w w' e := by
  go_enter Tryz.func111, Tryz.ntmps111
  go_wp2
  exact ⟨rfl, _, rfl, below2 w _ _⟩
theorem fmuN : Musts 111 (fun _ => false) := by
  intro k u w hk
  refine Musts.no (p := fun _ => false) (k := k) rfl ?_
  rcases hk.cases with ⟨h0, rfl⟩ | ⟨rfl, a, rfl⟩ | ⟨rfl, a, rfl⟩ | ⟨rfl, a, rfl⟩ | ⟨rfl, a, rfl⟩ | ⟨rfl, a, rfl⟩ | ⟨rfl, a, rfl⟩ | ⟨rfl, a, rfl⟩ | ⟨rfl, a, rfl⟩ | ⟨rfl, a, b, rfl, ha, hb⟩ | ⟨rfl, c, a, rfl⟩ | ⟨rfl, a, rfl⟩ | ⟨rfl, rfl⟩ | ⟨rfl, rfl⟩
  · obtain ⟨o, ho⟩ := must_nil (x := 20) Tryz.underlying182
    exact fnoN _ w o ho
  · obtain ⟨o, ho⟩ := must_ty (t := 105) (x := 20) (v := _) Tryz.underlying182 (fun m h => by cases h) (by decide)
    exact fnoN _ w o ho
  · obtain ⟨o, ho⟩ := must_ty (t := 106) (x := 20) (v := _) Tryz.underlying182 (fun m h => by cases h) (by decide)
    exact fnoN _ w o ho
  · obtain ⟨o, ho⟩ := must_ty (t := 108) (x := 20) (v := _) Tryz.underlying182 (fun m h => by cases h) (by decide)
    exact fnoN _ w o ho
  · obtain ⟨o, ho⟩ := must_ty (t := 110) (x := 20) (v := _) Tryz.underlying182 (fun m h => by cases h) (by decide)
    exact fnoN _ w o ho
  · obtain ⟨o, ho⟩ := must_ty (t := 111) (x := 20) (v := _) Tryz.underlying182 (fun m h => by cases h) (by decide)
    exact fnoN _ w o ho
  · obtain ⟨o, ho⟩ := must_ty (t := 112) (x := 20) (v := _) Tryz.underlying182 (fun m h => by cases h) (by decide)
    exact fnoN _ w o ho
  · obtain ⟨o, ho⟩ := must_ty (t := 115) (x := 20) (v := _) Tryz.underlying182 (fun m h => by cases h) (by decide)
    exact fnoN _ w o ho
  · obtain ⟨o, ho⟩ := must_ty (t := 117) (x := 20) (v := _) Tryz.underlying182 (fun m h => by cases h) (by decide)
    exact fnoN _ w o ho
  · obtain ⟨o, ho⟩ := must_ty (t := 120) (x := 20) (v := _) Tryz.underlying182 (fun m h => by cases h) (by decide)
    exact fnoN _ w o ho
  · obtain ⟨o, ho⟩ := must_ty (t := 122) (x := 20) (v := _) Tryz.underlying182 (fun m h => by cases h) (by decide)
    exact fnoN _ w o ho
  · obtain ⟨o, ho⟩ := must_ty (t := 123) (x := 20) (v := _) Tryz.underlying182 (fun m h => by cases h) (by decide)
    exact fnoN _ w o ho
  · obtain ⟨o, ho⟩ := must_ty (t := 123) (x := 20) (v := _) Tryz.underlying182 (fun m h => by cases h) (by decide)
    exact fnoN _ w o ho
  · obtain ⟨o, ho⟩ := must_ty (t := 125) (x := 20) (v := _) Tryz.underlying182 (fun m h => by cases h) (by decide)
    exact fnoN _ w o ho

/-- The question of type A and value av is asked, panicking, by function F. -/
def MethA (A : Nat) (av : Value) (F : Nat) : Prop := (∀ w : World, (method 300 A av "conduit/want.must").run Tryz.prog w = .ok (F, .agg #[]) w) ∧ ∀ (args : Array Value) (w : World), (callFunc F args).run Tryz.prog w = .ok (.enter F args) w

/-- Every interface's question is asked, panicking, by some function. -/
theorem face_musts (f : Int) : ∃ F, MethA 63 (.agg #[.iface (qfc f) (.agg #[]), .int .u8 (mbits f)]) F ∧ Musts F (fun k => impl k f) := by
  by_cases h : f < 0 ∨ 9 < f
  · have hq : qfc f = 87 := by
      unfold qfc
      rw [if_neg (show ¬ f = 0 by omega)]
      rw [if_neg (show ¬ f = 1 by omega)]
      rw [if_neg (show ¬ f = 2 by omega)]
      rw [if_neg (show ¬ f = 3 by omega)]
      rw [if_neg (show ¬ f = 4 by omega)]
      rw [if_neg (show ¬ f = 5 by omega)]
      rw [if_neg (show ¬ f = 6 by omega)]
      rw [if_neg (show ¬ f = 7 by omega)]
      rw [if_neg (show ¬ f = 8 by omega)]
      rw [if_neg (show ¬ f = 9 by omega)]
    rw [hq]
    refine ⟨111, ⟨fun _ => by kernel_rfl, fun _ _ => by kernel_rfl⟩, ?_⟩
    have : (fun k => impl k f) = fun _ => false := funext fun k => impl_none k f h
    rw [this]
    exact fmuN
  have hk : f = 0 ∨ f = 1 ∨ f = 2 ∨ f = 3 ∨ f = 4 ∨ f = 5 ∨ f = 6 ∨ f = 7 ∨ f = 8 ∨ f = 9 := by omega
  rcases hk with rfl | rfl | rfl | rfl | rfl | rfl | rfl | rfl | rfl | rfl
  · exact ⟨91, ⟨fun _ => by kernel_rfl, fun _ _ => by kernel_rfl⟩, fmu0⟩
  · exact ⟨93, ⟨fun _ => by kernel_rfl, fun _ _ => by kernel_rfl⟩, fmu1⟩
  · exact ⟨95, ⟨fun _ => by kernel_rfl, fun _ _ => by kernel_rfl⟩, fmu2⟩
  · exact ⟨97, ⟨fun _ => by kernel_rfl, fun _ _ => by kernel_rfl⟩, fmu3⟩
  · exact ⟨99, ⟨fun _ => by kernel_rfl, fun _ _ => by kernel_rfl⟩, fmu4⟩
  · exact ⟨101, ⟨fun _ => by kernel_rfl, fun _ _ => by kernel_rfl⟩, fmu5⟩
  · exact ⟨103, ⟨fun _ => by kernel_rfl, fun _ _ => by kernel_rfl⟩, fmu6⟩
  · exact ⟨105, ⟨fun _ => by kernel_rfl, fun _ _ => by kernel_rfl⟩, fmu7⟩
  · exact ⟨107, ⟨fun _ => by kernel_rfl, fun _ _ => by kernel_rfl⟩, fmu8⟩
  · exact ⟨109, ⟨fun _ => by kernel_rfl, fun _ _ => by kernel_rfl⟩, fmu9⟩
end Go.Proofs.YtokiaolgdkikiaaGreat
