/- Each interface's question in the form that panics: the value itself, where its kind has the interface, else the panic; no condition. -/
import Derived.Test.YthamafijjflfbaaGreatMac
import Derived.Test.YthamafijjflfbaaGreatMaj
namespace Go.Proofs.YthamafijjflfbaaGreat
open Go.RowKit

/-- The question that function f asks gives the value where p says yes of its kind, and else panics. -/
def Musts (f : Nat) (p : Int → Bool) : Prop := ∀ (k : Int) (u : Value) (w : World), Kd k u → (p k = true → Calls Tryz.prog f #[.agg #[], u] w fun e w' => e = .returned u ∧ Below w.heap.size w w') ∧ (p k = false → Calls Tryz.prog f #[.agg #[], u] w fun e w' => Pan w w' e)
theorem Musts.yes {f : Nat} {p : Int → Bool} {k : Int} {u : Value} {w : World} (hp : p k = true) (h : Calls Tryz.prog f #[.agg #[], u] w fun e w' => e = .returned u ∧ Below w.heap.size w w') : (p k = true → Calls Tryz.prog f #[.agg #[], u] w fun e w' => e = .returned u ∧ Below w.heap.size w w') ∧ (p k = false → Calls Tryz.prog f #[.agg #[], u] w fun e w' => Pan w w' e) := ⟨fun _ => h, fun h' => by rw [hp] at h'; cases h'⟩
theorem Musts.no {f : Nat} {p : Int → Bool} {k : Int} {u : Value} {w : World} (hp : p k = false) (h : Calls Tryz.prog f #[.agg #[], u] w fun e w' => Pan w w' e) : (p k = true → Calls Tryz.prog f #[.agg #[], u] w fun e w' => e = .returned u ∧ Below w.heap.size w w') ∧ (p k = false → Calls Tryz.prog f #[.agg #[], u] w fun e w' => Pan w w' e) := ⟨fun h' => (by rw [hp] at h'; cases h'), fun _ => h⟩

set_option maxRecDepth 100000 in
set_option maxHeartbeats 1000000 in
theorem fno0 (u : Value) (w : World) (o : Obj) (h : ∀ w : World, (Instr.typeAssert u 20 115 false).run Tryz.prog w = .halt (.panic (.iface 15 (.pointer (some ⟨w.heap.size, 0, none⟩)))) (w.alloc o)) : Calls Tryz.prog 150 #[.agg #[], u] w fun e w' => Pan w w' e := by
  go_enter Tryz.func150, Tryz.ntmps150
  go_wp2
  exact ⟨rfl, _, rfl, below2 w _ _⟩
set_option maxRecDepth 100000 in
set_option maxHeartbeats 1000000 in
theorem fyes0 (t : TypeId) (z : Value) (w : World) (h : ∀ w : World, (Instr.typeAssert (.iface t z) 20 115 false).run Tryz.prog w = .ok (.iface t z) w) : Calls Tryz.prog 150 #[.agg #[], .iface t z] w fun e w' => e = .returned (.iface t z) ∧ Below w.heap.size w w' := by
  go_enter Tryz.func150, Tryz.ntmps150
  go_wp2
  go_ret
  exact ⟨rfl, below1 w _⟩
theorem fmu0 : Musts 150 (fun k => impl k 0) := by
  intro k u w hk
  rcases hk.cases with ⟨h0, rfl⟩ | ⟨rfl, a, rfl⟩ | ⟨rfl, a, rfl⟩ | ⟨rfl, a, rfl⟩ | ⟨rfl, a, rfl⟩ | ⟨rfl, a, rfl⟩ | ⟨rfl, a, rfl⟩ | ⟨rfl, a, rfl⟩ | ⟨rfl, a, rfl⟩ | ⟨rfl, a, b, rfl, ha, hb⟩ | ⟨rfl, c, a, rfl⟩ | ⟨rfl, a, rfl⟩ | ⟨rfl, rfl⟩ | ⟨rfl, rfl⟩
  · obtain ⟨o, ho⟩ := must_nil (x := 20) Tryz.underlying115
    exact Musts.no (impl_no h0 0) (fno0 _ w o ho)
  · obtain ⟨o, ho⟩ := must_lacks (t := 113) (x := 20) (v := _) Tryz.underlying115 (by kernel_rfl)
    exact Musts.no (by decide) (fno0 _ w o ho)
  · obtain ⟨o, ho⟩ := must_lacks (t := 128) (x := 20) (v := _) Tryz.underlying115 (by kernel_rfl)
    exact Musts.no (by decide) (fno0 _ w o ho)
  · obtain ⟨o, ho⟩ := must_lacks (t := 129) (x := 20) (v := _) Tryz.underlying115 (by kernel_rfl)
    exact Musts.no (by decide) (fno0 _ w o ho)
  · exact Musts.yes (by decide) (fyes0 _ _ w fun w => must_has Tryz.underlying115 (by kernel_rfl) w)
  · exact Musts.yes (by decide) (fyes0 _ _ w fun w => must_has Tryz.underlying115 (by kernel_rfl) w)
  · obtain ⟨o, ho⟩ := must_lacks (t := 110) (x := 20) (v := _) Tryz.underlying115 (by kernel_rfl)
    exact Musts.no (by decide) (fno0 _ w o ho)
  · exact Musts.yes (by decide) (fyes0 _ _ w fun w => must_has Tryz.underlying115 (by kernel_rfl) w)
  · exact Musts.yes (by decide) (fyes0 _ _ w fun w => must_has Tryz.underlying115 (by kernel_rfl) w)
  · exact Musts.yes (by decide) (fyes0 _ _ w fun w => must_has Tryz.underlying115 (by kernel_rfl) w)
  · obtain ⟨o, ho⟩ := must_lacks (t := 75) (x := 20) (v := _) Tryz.underlying115 (by kernel_rfl)
    exact Musts.no (by decide) (fno0 _ w o ho)
  · exact Musts.yes (by decide) (fyes0 _ _ w fun w => must_has Tryz.underlying115 (by kernel_rfl) w)
  · exact Musts.yes (by decide) (fyes0 _ _ w fun w => must_has Tryz.underlying115 (by kernel_rfl) w)
  · obtain ⟨o, ho⟩ := must_lacks (t := 143) (x := 20) (v := _) Tryz.underlying115 (by kernel_rfl)
    exact Musts.no (by decide) (fno0 _ w o ho)

set_option maxRecDepth 100000 in
set_option maxHeartbeats 1000000 in
theorem fno1 (u : Value) (w : World) (o : Obj) (h : ∀ w : World, (Instr.typeAssert u 20 180 false).run Tryz.prog w = .halt (.panic (.iface 15 (.pointer (some ⟨w.heap.size, 0, none⟩)))) (w.alloc o)) : Calls Tryz.prog 152 #[.agg #[], u] w fun e w' => Pan w w' e := by
  go_enter Tryz.func152, Tryz.ntmps152
  go_wp2
  exact ⟨rfl, _, rfl, below2 w _ _⟩
set_option maxRecDepth 100000 in
set_option maxHeartbeats 1000000 in
theorem fyes1 (t : TypeId) (z : Value) (w : World) (h : ∀ w : World, (Instr.typeAssert (.iface t z) 20 180 false).run Tryz.prog w = .ok (.iface t z) w) : Calls Tryz.prog 152 #[.agg #[], .iface t z] w fun e w' => e = .returned (.iface t z) ∧ Below w.heap.size w w' := by
  go_enter Tryz.func152, Tryz.ntmps152
  go_wp2
  go_ret
  exact ⟨rfl, below1 w _⟩
theorem fmu1 : Musts 152 (fun k => impl k 1) := by
  intro k u w hk
  rcases hk.cases with ⟨h0, rfl⟩ | ⟨rfl, a, rfl⟩ | ⟨rfl, a, rfl⟩ | ⟨rfl, a, rfl⟩ | ⟨rfl, a, rfl⟩ | ⟨rfl, a, rfl⟩ | ⟨rfl, a, rfl⟩ | ⟨rfl, a, rfl⟩ | ⟨rfl, a, rfl⟩ | ⟨rfl, a, b, rfl, ha, hb⟩ | ⟨rfl, c, a, rfl⟩ | ⟨rfl, a, rfl⟩ | ⟨rfl, rfl⟩ | ⟨rfl, rfl⟩
  · obtain ⟨o, ho⟩ := must_nil (x := 20) Tryz.underlying180
    exact Musts.no (impl_no h0 1) (fno1 _ w o ho)
  · obtain ⟨o, ho⟩ := must_lacks (t := 113) (x := 20) (v := _) Tryz.underlying180 (by kernel_rfl)
    exact Musts.no (by decide) (fno1 _ w o ho)
  · exact Musts.yes (by decide) (fyes1 _ _ w fun w => must_has Tryz.underlying180 (by kernel_rfl) w)
  · obtain ⟨o, ho⟩ := must_lacks (t := 129) (x := 20) (v := _) Tryz.underlying180 (by kernel_rfl)
    exact Musts.no (by decide) (fno1 _ w o ho)
  · obtain ⟨o, ho⟩ := must_lacks (t := 131) (x := 20) (v := _) Tryz.underlying180 (by kernel_rfl)
    exact Musts.no (by decide) (fno1 _ w o ho)
  · exact Musts.yes (by decide) (fyes1 _ _ w fun w => must_has Tryz.underlying180 (by kernel_rfl) w)
  · obtain ⟨o, ho⟩ := must_lacks (t := 110) (x := 20) (v := _) Tryz.underlying180 (by kernel_rfl)
    exact Musts.no (by decide) (fno1 _ w o ho)
  · obtain ⟨o, ho⟩ := must_lacks (t := 135) (x := 20) (v := _) Tryz.underlying180 (by kernel_rfl)
    exact Musts.no (by decide) (fno1 _ w o ho)
  · obtain ⟨o, ho⟩ := must_lacks (t := 137) (x := 20) (v := _) Tryz.underlying180 (by kernel_rfl)
    exact Musts.no (by decide) (fno1 _ w o ho)
  · obtain ⟨o, ho⟩ := must_lacks (t := 140) (x := 20) (v := _) Tryz.underlying180 (by kernel_rfl)
    exact Musts.no (by decide) (fno1 _ w o ho)
  · exact Musts.yes (by decide) (fyes1 _ _ w fun w => must_has Tryz.underlying180 (by kernel_rfl) w)
  · obtain ⟨o, ho⟩ := must_lacks (t := 141) (x := 20) (v := _) Tryz.underlying180 (by kernel_rfl)
    exact Musts.no (by decide) (fno1 _ w o ho)
  · obtain ⟨o, ho⟩ := must_lacks (t := 141) (x := 20) (v := _) Tryz.underlying180 (by kernel_rfl)
    exact Musts.no (by decide) (fno1 _ w o ho)
  · obtain ⟨o, ho⟩ := must_lacks (t := 143) (x := 20) (v := _) Tryz.underlying180 (by kernel_rfl)
    exact Musts.no (by decide) (fno1 _ w o ho)

set_option maxRecDepth 100000 in
set_option maxHeartbeats 1000000 in
theorem fno2 (u : Value) (w : World) (o : Obj) (h : ∀ w : World, (Instr.typeAssert u 20 183 false).run Tryz.prog w = .halt (.panic (.iface 15 (.pointer (some ⟨w.heap.size, 0, none⟩)))) (w.alloc o)) : Calls Tryz.prog 154 #[.agg #[], u] w fun e w' => Pan w w' e := by
  go_enter Tryz.func154, Tryz.ntmps154
  go_wp2
  exact ⟨rfl, _, rfl, below2 w _ _⟩
set_option maxRecDepth 100000 in
set_option maxHeartbeats 1000000 in
theorem fyes2 (t : TypeId) (z : Value) (w : World) (h : ∀ w : World, (Instr.typeAssert (.iface t z) 20 183 false).run Tryz.prog w = .ok (.iface t z) w) : Calls Tryz.prog 154 #[.agg #[], .iface t z] w fun e w' => e = .returned (.iface t z) ∧ Below w.heap.size w w' := by
  go_enter Tryz.func154, Tryz.ntmps154
  go_wp2
  go_ret
  exact ⟨rfl, below1 w _⟩
theorem fmu2 : Musts 154 (fun k => impl k 2) := by
  intro k u w hk
  rcases hk.cases with ⟨h0, rfl⟩ | ⟨rfl, a, rfl⟩ | ⟨rfl, a, rfl⟩ | ⟨rfl, a, rfl⟩ | ⟨rfl, a, rfl⟩ | ⟨rfl, a, rfl⟩ | ⟨rfl, a, rfl⟩ | ⟨rfl, a, rfl⟩ | ⟨rfl, a, rfl⟩ | ⟨rfl, a, b, rfl, ha, hb⟩ | ⟨rfl, c, a, rfl⟩ | ⟨rfl, a, rfl⟩ | ⟨rfl, rfl⟩ | ⟨rfl, rfl⟩
  · obtain ⟨o, ho⟩ := must_nil (x := 20) Tryz.underlying183
    exact Musts.no (impl_no h0 2) (fno2 _ w o ho)
  · obtain ⟨o, ho⟩ := must_lacks (t := 113) (x := 20) (v := _) Tryz.underlying183 (by kernel_rfl)
    exact Musts.no (by decide) (fno2 _ w o ho)
  · obtain ⟨o, ho⟩ := must_lacks (t := 128) (x := 20) (v := _) Tryz.underlying183 (by kernel_rfl)
    exact Musts.no (by decide) (fno2 _ w o ho)
  · obtain ⟨o, ho⟩ := must_lacks (t := 129) (x := 20) (v := _) Tryz.underlying183 (by kernel_rfl)
    exact Musts.no (by decide) (fno2 _ w o ho)
  · obtain ⟨o, ho⟩ := must_lacks (t := 131) (x := 20) (v := _) Tryz.underlying183 (by kernel_rfl)
    exact Musts.no (by decide) (fno2 _ w o ho)
  · obtain ⟨o, ho⟩ := must_lacks (t := 132) (x := 20) (v := _) Tryz.underlying183 (by kernel_rfl)
    exact Musts.no (by decide) (fno2 _ w o ho)
  · obtain ⟨o, ho⟩ := must_lacks (t := 110) (x := 20) (v := _) Tryz.underlying183 (by kernel_rfl)
    exact Musts.no (by decide) (fno2 _ w o ho)
  · obtain ⟨o, ho⟩ := must_lacks (t := 135) (x := 20) (v := _) Tryz.underlying183 (by kernel_rfl)
    exact Musts.no (by decide) (fno2 _ w o ho)
  · obtain ⟨o, ho⟩ := must_lacks (t := 137) (x := 20) (v := _) Tryz.underlying183 (by kernel_rfl)
    exact Musts.no (by decide) (fno2 _ w o ho)
  · obtain ⟨o, ho⟩ := must_lacks (t := 140) (x := 20) (v := _) Tryz.underlying183 (by kernel_rfl)
    exact Musts.no (by decide) (fno2 _ w o ho)
  · exact Musts.yes (by decide) (fyes2 _ _ w fun w => must_has Tryz.underlying183 (by kernel_rfl) w)
  · exact Musts.yes (by decide) (fyes2 _ _ w fun w => must_has Tryz.underlying183 (by kernel_rfl) w)
  · exact Musts.yes (by decide) (fyes2 _ _ w fun w => must_has Tryz.underlying183 (by kernel_rfl) w)
  · obtain ⟨o, ho⟩ := must_lacks (t := 143) (x := 20) (v := _) Tryz.underlying183 (by kernel_rfl)
    exact Musts.no (by decide) (fno2 _ w o ho)

set_option maxRecDepth 100000 in
set_option maxHeartbeats 1000000 in
theorem fno3 (u : Value) (w : World) (o : Obj) (h : ∀ w : World, (Instr.typeAssert u 20 100 false).run Tryz.prog w = .halt (.panic (.iface 15 (.pointer (some ⟨w.heap.size, 0, none⟩)))) (w.alloc o)) : Calls Tryz.prog 156 #[.agg #[], u] w fun e w' => Pan w w' e := by
  go_enter Tryz.func156, Tryz.ntmps156
  go_wp2
  exact ⟨rfl, _, rfl, below2 w _ _⟩
set_option maxRecDepth 100000 in
set_option maxHeartbeats 1000000 in
theorem fyes3 (t : TypeId) (z : Value) (w : World) (h : ∀ w : World, (Instr.typeAssert (.iface t z) 20 100 false).run Tryz.prog w = .ok (.iface t z) w) : Calls Tryz.prog 156 #[.agg #[], .iface t z] w fun e w' => e = .returned (.iface t z) ∧ Below w.heap.size w w' := by
  go_enter Tryz.func156, Tryz.ntmps156
  go_wp2
  go_ret
  exact ⟨rfl, below1 w _⟩
theorem fmu3 : Musts 156 (fun k => impl k 3) := by
  intro k u w hk
  rcases hk.cases with ⟨h0, rfl⟩ | ⟨rfl, a, rfl⟩ | ⟨rfl, a, rfl⟩ | ⟨rfl, a, rfl⟩ | ⟨rfl, a, rfl⟩ | ⟨rfl, a, rfl⟩ | ⟨rfl, a, rfl⟩ | ⟨rfl, a, rfl⟩ | ⟨rfl, a, rfl⟩ | ⟨rfl, a, b, rfl, ha, hb⟩ | ⟨rfl, c, a, rfl⟩ | ⟨rfl, a, rfl⟩ | ⟨rfl, rfl⟩ | ⟨rfl, rfl⟩
  · obtain ⟨o, ho⟩ := must_nil (x := 20) Tryz.underlying100
    exact Musts.no (impl_no h0 3) (fno3 _ w o ho)
  · obtain ⟨o, ho⟩ := must_lacks (t := 113) (x := 20) (v := _) Tryz.underlying100 (by kernel_rfl)
    exact Musts.no (by decide) (fno3 _ w o ho)
  · obtain ⟨o, ho⟩ := must_lacks (t := 128) (x := 20) (v := _) Tryz.underlying100 (by kernel_rfl)
    exact Musts.no (by decide) (fno3 _ w o ho)
  · obtain ⟨o, ho⟩ := must_lacks (t := 129) (x := 20) (v := _) Tryz.underlying100 (by kernel_rfl)
    exact Musts.no (by decide) (fno3 _ w o ho)
  · obtain ⟨o, ho⟩ := must_lacks (t := 131) (x := 20) (v := _) Tryz.underlying100 (by kernel_rfl)
    exact Musts.no (by decide) (fno3 _ w o ho)
  · obtain ⟨o, ho⟩ := must_lacks (t := 132) (x := 20) (v := _) Tryz.underlying100 (by kernel_rfl)
    exact Musts.no (by decide) (fno3 _ w o ho)
  · obtain ⟨o, ho⟩ := must_lacks (t := 110) (x := 20) (v := _) Tryz.underlying100 (by kernel_rfl)
    exact Musts.no (by decide) (fno3 _ w o ho)
  · obtain ⟨o, ho⟩ := must_lacks (t := 135) (x := 20) (v := _) Tryz.underlying100 (by kernel_rfl)
    exact Musts.no (by decide) (fno3 _ w o ho)
  · obtain ⟨o, ho⟩ := must_lacks (t := 137) (x := 20) (v := _) Tryz.underlying100 (by kernel_rfl)
    exact Musts.no (by decide) (fno3 _ w o ho)
  · obtain ⟨o, ho⟩ := must_lacks (t := 140) (x := 20) (v := _) Tryz.underlying100 (by kernel_rfl)
    exact Musts.no (by decide) (fno3 _ w o ho)
  · obtain ⟨o, ho⟩ := must_lacks (t := 75) (x := 20) (v := _) Tryz.underlying100 (by kernel_rfl)
    exact Musts.no (by decide) (fno3 _ w o ho)
  · exact Musts.yes (by decide) (fyes3 _ _ w fun w => must_has Tryz.underlying100 (by kernel_rfl) w)
  · exact Musts.yes (by decide) (fyes3 _ _ w fun w => must_has Tryz.underlying100 (by kernel_rfl) w)
  · obtain ⟨o, ho⟩ := must_lacks (t := 143) (x := 20) (v := _) Tryz.underlying100 (by kernel_rfl)
    exact Musts.no (by decide) (fno3 _ w o ho)

set_option maxRecDepth 100000 in
set_option maxHeartbeats 1000000 in
theorem fno4 (u : Value) (w : World) (o : Obj) (h : ∀ w : World, (Instr.typeAssert u 20 187 false).run Tryz.prog w = .halt (.panic (.iface 15 (.pointer (some ⟨w.heap.size, 0, none⟩)))) (w.alloc o)) : Calls Tryz.prog 158 #[.agg #[], u] w fun e w' => Pan w w' e := by
  go_enter Tryz.func158, Tryz.ntmps158
  go_wp2
  exact ⟨rfl, _, rfl, below2 w _ _⟩
set_option maxRecDepth 100000 in
set_option maxHeartbeats 1000000 in
theorem fyes4 (t : TypeId) (z : Value) (w : World) (h : ∀ w : World, (Instr.typeAssert (.iface t z) 20 187 false).run Tryz.prog w = .ok (.iface t z) w) : Calls Tryz.prog 158 #[.agg #[], .iface t z] w fun e w' => e = .returned (.iface t z) ∧ Below w.heap.size w w' := by
  go_enter Tryz.func158, Tryz.ntmps158
  go_wp2
  go_ret
  exact ⟨rfl, below1 w _⟩
theorem fmu4 : Musts 158 (fun k => impl k 4) := by
  intro k u w hk
  rcases hk.cases with ⟨h0, rfl⟩ | ⟨rfl, a, rfl⟩ | ⟨rfl, a, rfl⟩ | ⟨rfl, a, rfl⟩ | ⟨rfl, a, rfl⟩ | ⟨rfl, a, rfl⟩ | ⟨rfl, a, rfl⟩ | ⟨rfl, a, rfl⟩ | ⟨rfl, a, rfl⟩ | ⟨rfl, a, b, rfl, ha, hb⟩ | ⟨rfl, c, a, rfl⟩ | ⟨rfl, a, rfl⟩ | ⟨rfl, rfl⟩ | ⟨rfl, rfl⟩
  · obtain ⟨o, ho⟩ := must_nil (x := 20) Tryz.underlying187
    exact Musts.no (impl_no h0 4) (fno4 _ w o ho)
  · exact Musts.yes (by decide) (fyes4 _ _ w fun w => must_has Tryz.underlying187 (by kernel_rfl) w)
  · exact Musts.yes (by decide) (fyes4 _ _ w fun w => must_has Tryz.underlying187 (by kernel_rfl) w)
  · exact Musts.yes (by decide) (fyes4 _ _ w fun w => must_has Tryz.underlying187 (by kernel_rfl) w)
  · exact Musts.yes (by decide) (fyes4 _ _ w fun w => must_has Tryz.underlying187 (by kernel_rfl) w)
  · exact Musts.yes (by decide) (fyes4 _ _ w fun w => must_has Tryz.underlying187 (by kernel_rfl) w)
  · obtain ⟨o, ho⟩ := must_lacks (t := 110) (x := 20) (v := _) Tryz.underlying187 (by kernel_rfl)
    exact Musts.no (by decide) (fno4 _ w o ho)
  · obtain ⟨o, ho⟩ := must_lacks (t := 135) (x := 20) (v := _) Tryz.underlying187 (by kernel_rfl)
    exact Musts.no (by decide) (fno4 _ w o ho)
  · obtain ⟨o, ho⟩ := must_lacks (t := 137) (x := 20) (v := _) Tryz.underlying187 (by kernel_rfl)
    exact Musts.no (by decide) (fno4 _ w o ho)
  · obtain ⟨o, ho⟩ := must_lacks (t := 140) (x := 20) (v := _) Tryz.underlying187 (by kernel_rfl)
    exact Musts.no (by decide) (fno4 _ w o ho)
  · obtain ⟨o, ho⟩ := must_lacks (t := 75) (x := 20) (v := _) Tryz.underlying187 (by kernel_rfl)
    exact Musts.no (by decide) (fno4 _ w o ho)
  · obtain ⟨o, ho⟩ := must_lacks (t := 141) (x := 20) (v := _) Tryz.underlying187 (by kernel_rfl)
    exact Musts.no (by decide) (fno4 _ w o ho)
  · obtain ⟨o, ho⟩ := must_lacks (t := 141) (x := 20) (v := _) Tryz.underlying187 (by kernel_rfl)
    exact Musts.no (by decide) (fno4 _ w o ho)
  · obtain ⟨o, ho⟩ := must_lacks (t := 143) (x := 20) (v := _) Tryz.underlying187 (by kernel_rfl)
    exact Musts.no (by decide) (fno4 _ w o ho)

set_option maxRecDepth 100000 in
set_option maxHeartbeats 1000000 in
theorem fno5 (u : Value) (w : World) (o : Obj) (h : ∀ w : World, (Instr.typeAssert u 20 190 false).run Tryz.prog w = .halt (.panic (.iface 15 (.pointer (some ⟨w.heap.size, 0, none⟩)))) (w.alloc o)) : Calls Tryz.prog 160 #[.agg #[], u] w fun e w' => Pan w w' e := by
  go_enter Tryz.func160, Tryz.ntmps160
  go_wp2
  exact ⟨rfl, _, rfl, below2 w _ _⟩
set_option maxRecDepth 100000 in
set_option maxHeartbeats 1000000 in
theorem fyes5 (t : TypeId) (z : Value) (w : World) (h : ∀ w : World, (Instr.typeAssert (.iface t z) 20 190 false).run Tryz.prog w = .ok (.iface t z) w) : Calls Tryz.prog 160 #[.agg #[], .iface t z] w fun e w' => e = .returned (.iface t z) ∧ Below w.heap.size w w' := by
  go_enter Tryz.func160, Tryz.ntmps160
  go_wp2
  go_ret
  exact ⟨rfl, below1 w _⟩
theorem fmu5 : Musts 160 (fun k => impl k 5) := by
  intro k u w hk
  rcases hk.cases with ⟨h0, rfl⟩ | ⟨rfl, a, rfl⟩ | ⟨rfl, a, rfl⟩ | ⟨rfl, a, rfl⟩ | ⟨rfl, a, rfl⟩ | ⟨rfl, a, rfl⟩ | ⟨rfl, a, rfl⟩ | ⟨rfl, a, rfl⟩ | ⟨rfl, a, rfl⟩ | ⟨rfl, a, b, rfl, ha, hb⟩ | ⟨rfl, c, a, rfl⟩ | ⟨rfl, a, rfl⟩ | ⟨rfl, rfl⟩ | ⟨rfl, rfl⟩
  · obtain ⟨o, ho⟩ := must_nil (x := 20) Tryz.underlying190
    exact Musts.no (impl_no h0 5) (fno5 _ w o ho)
  · exact Musts.yes (by decide) (fyes5 _ _ w fun w => must_has Tryz.underlying190 (by kernel_rfl) w)
  · obtain ⟨o, ho⟩ := must_lacks (t := 128) (x := 20) (v := _) Tryz.underlying190 (by kernel_rfl)
    exact Musts.no (by decide) (fno5 _ w o ho)
  · exact Musts.yes (by decide) (fyes5 _ _ w fun w => must_has Tryz.underlying190 (by kernel_rfl) w)
  · obtain ⟨o, ho⟩ := must_lacks (t := 131) (x := 20) (v := _) Tryz.underlying190 (by kernel_rfl)
    exact Musts.no (by decide) (fno5 _ w o ho)
  · obtain ⟨o, ho⟩ := must_lacks (t := 132) (x := 20) (v := _) Tryz.underlying190 (by kernel_rfl)
    exact Musts.no (by decide) (fno5 _ w o ho)
  · obtain ⟨o, ho⟩ := must_lacks (t := 110) (x := 20) (v := _) Tryz.underlying190 (by kernel_rfl)
    exact Musts.no (by decide) (fno5 _ w o ho)
  · obtain ⟨o, ho⟩ := must_lacks (t := 135) (x := 20) (v := _) Tryz.underlying190 (by kernel_rfl)
    exact Musts.no (by decide) (fno5 _ w o ho)
  · obtain ⟨o, ho⟩ := must_lacks (t := 137) (x := 20) (v := _) Tryz.underlying190 (by kernel_rfl)
    exact Musts.no (by decide) (fno5 _ w o ho)
  · obtain ⟨o, ho⟩ := must_lacks (t := 140) (x := 20) (v := _) Tryz.underlying190 (by kernel_rfl)
    exact Musts.no (by decide) (fno5 _ w o ho)
  · obtain ⟨o, ho⟩ := must_lacks (t := 75) (x := 20) (v := _) Tryz.underlying190 (by kernel_rfl)
    exact Musts.no (by decide) (fno5 _ w o ho)
  · obtain ⟨o, ho⟩ := must_lacks (t := 141) (x := 20) (v := _) Tryz.underlying190 (by kernel_rfl)
    exact Musts.no (by decide) (fno5 _ w o ho)
  · obtain ⟨o, ho⟩ := must_lacks (t := 141) (x := 20) (v := _) Tryz.underlying190 (by kernel_rfl)
    exact Musts.no (by decide) (fno5 _ w o ho)
  · obtain ⟨o, ho⟩ := must_lacks (t := 143) (x := 20) (v := _) Tryz.underlying190 (by kernel_rfl)
    exact Musts.no (by decide) (fno5 _ w o ho)

set_option maxRecDepth 100000 in
set_option maxHeartbeats 1000000 in
theorem fno6 (u : Value) (w : World) (o : Obj) (h : ∀ w : World, (Instr.typeAssert u 20 211 false).run Tryz.prog w = .halt (.panic (.iface 15 (.pointer (some ⟨w.heap.size, 0, none⟩)))) (w.alloc o)) : Calls Tryz.prog 162 #[.agg #[], u] w fun e w' => Pan w w' e := by
  go_enter Tryz.func162, Tryz.ntmps162
  go_wp2
  exact ⟨rfl, _, rfl, below2 w _ _⟩
set_option maxRecDepth 100000 in
set_option maxHeartbeats 1000000 in
theorem fyes6 (t : TypeId) (z : Value) (w : World) (h : ∀ w : World, (Instr.typeAssert (.iface t z) 20 211 false).run Tryz.prog w = .ok (.iface t z) w) : Calls Tryz.prog 162 #[.agg #[], .iface t z] w fun e w' => e = .returned (.iface t z) ∧ Below w.heap.size w w' := by
  go_enter Tryz.func162, Tryz.ntmps162
  go_wp2
  go_ret
  exact ⟨rfl, below1 w _⟩
theorem fmu6 : Musts 162 (fun k => impl k 6) := by
  intro k u w hk
  rcases hk.cases with ⟨h0, rfl⟩ | ⟨rfl, a, rfl⟩ | ⟨rfl, a, rfl⟩ | ⟨rfl, a, rfl⟩ | ⟨rfl, a, rfl⟩ | ⟨rfl, a, rfl⟩ | ⟨rfl, a, rfl⟩ | ⟨rfl, a, rfl⟩ | ⟨rfl, a, rfl⟩ | ⟨rfl, a, b, rfl, ha, hb⟩ | ⟨rfl, c, a, rfl⟩ | ⟨rfl, a, rfl⟩ | ⟨rfl, rfl⟩ | ⟨rfl, rfl⟩
  · obtain ⟨o, ho⟩ := must_nil (x := 20) Tryz.underlying211
    exact Musts.no (impl_no h0 6) (fno6 _ w o ho)
  · obtain ⟨o, ho⟩ := must_lacks (t := 113) (x := 20) (v := _) Tryz.underlying211 (by kernel_rfl)
    exact Musts.no (by decide) (fno6 _ w o ho)
  · obtain ⟨o, ho⟩ := must_lacks (t := 128) (x := 20) (v := _) Tryz.underlying211 (by kernel_rfl)
    exact Musts.no (by decide) (fno6 _ w o ho)
  · obtain ⟨o, ho⟩ := must_lacks (t := 129) (x := 20) (v := _) Tryz.underlying211 (by kernel_rfl)
    exact Musts.no (by decide) (fno6 _ w o ho)
  · obtain ⟨o, ho⟩ := must_lacks (t := 131) (x := 20) (v := _) Tryz.underlying211 (by kernel_rfl)
    exact Musts.no (by decide) (fno6 _ w o ho)
  · exact Musts.yes (by decide) (fyes6 _ _ w fun w => must_has Tryz.underlying211 (by kernel_rfl) w)
  · obtain ⟨o, ho⟩ := must_lacks (t := 110) (x := 20) (v := _) Tryz.underlying211 (by kernel_rfl)
    exact Musts.no (by decide) (fno6 _ w o ho)
  · obtain ⟨o, ho⟩ := must_lacks (t := 135) (x := 20) (v := _) Tryz.underlying211 (by kernel_rfl)
    exact Musts.no (by decide) (fno6 _ w o ho)
  · obtain ⟨o, ho⟩ := must_lacks (t := 137) (x := 20) (v := _) Tryz.underlying211 (by kernel_rfl)
    exact Musts.no (by decide) (fno6 _ w o ho)
  · obtain ⟨o, ho⟩ := must_lacks (t := 140) (x := 20) (v := _) Tryz.underlying211 (by kernel_rfl)
    exact Musts.no (by decide) (fno6 _ w o ho)
  · obtain ⟨o, ho⟩ := must_lacks (t := 75) (x := 20) (v := _) Tryz.underlying211 (by kernel_rfl)
    exact Musts.no (by decide) (fno6 _ w o ho)
  · obtain ⟨o, ho⟩ := must_lacks (t := 141) (x := 20) (v := _) Tryz.underlying211 (by kernel_rfl)
    exact Musts.no (by decide) (fno6 _ w o ho)
  · obtain ⟨o, ho⟩ := must_lacks (t := 141) (x := 20) (v := _) Tryz.underlying211 (by kernel_rfl)
    exact Musts.no (by decide) (fno6 _ w o ho)
  · obtain ⟨o, ho⟩ := must_lacks (t := 143) (x := 20) (v := _) Tryz.underlying211 (by kernel_rfl)
    exact Musts.no (by decide) (fno6 _ w o ho)

set_option maxRecDepth 100000 in
set_option maxHeartbeats 1000000 in
theorem fno7 (u : Value) (w : World) (o : Obj) (h : ∀ w : World, (Instr.typeAssert u 20 213 false).run Tryz.prog w = .halt (.panic (.iface 15 (.pointer (some ⟨w.heap.size, 0, none⟩)))) (w.alloc o)) : Calls Tryz.prog 164 #[.agg #[], u] w fun e w' => Pan w w' e := by
  go_enter Tryz.func164, Tryz.ntmps164
  go_wp2
  exact ⟨rfl, _, rfl, below2 w _ _⟩
set_option maxRecDepth 100000 in
set_option maxHeartbeats 1000000 in
theorem fyes7 (t : TypeId) (z : Value) (w : World) (h : ∀ w : World, (Instr.typeAssert (.iface t z) 20 213 false).run Tryz.prog w = .ok (.iface t z) w) : Calls Tryz.prog 164 #[.agg #[], .iface t z] w fun e w' => e = .returned (.iface t z) ∧ Below w.heap.size w w' := by
  go_enter Tryz.func164, Tryz.ntmps164
  go_wp2
  go_ret
  exact ⟨rfl, below1 w _⟩
theorem fmu7 : Musts 164 (fun k => impl k 7) := by
  intro k u w hk
  rcases hk.cases with ⟨h0, rfl⟩ | ⟨rfl, a, rfl⟩ | ⟨rfl, a, rfl⟩ | ⟨rfl, a, rfl⟩ | ⟨rfl, a, rfl⟩ | ⟨rfl, a, rfl⟩ | ⟨rfl, a, rfl⟩ | ⟨rfl, a, rfl⟩ | ⟨rfl, a, rfl⟩ | ⟨rfl, a, b, rfl, ha, hb⟩ | ⟨rfl, c, a, rfl⟩ | ⟨rfl, a, rfl⟩ | ⟨rfl, rfl⟩ | ⟨rfl, rfl⟩
  · obtain ⟨o, ho⟩ := must_nil (x := 20) Tryz.underlying213
    exact Musts.no (impl_no h0 7) (fno7 _ w o ho)
  · obtain ⟨o, ho⟩ := must_lacks (t := 113) (x := 20) (v := _) Tryz.underlying213 (by kernel_rfl)
    exact Musts.no (by decide) (fno7 _ w o ho)
  · obtain ⟨o, ho⟩ := must_lacks (t := 128) (x := 20) (v := _) Tryz.underlying213 (by kernel_rfl)
    exact Musts.no (by decide) (fno7 _ w o ho)
  · obtain ⟨o, ho⟩ := must_lacks (t := 129) (x := 20) (v := _) Tryz.underlying213 (by kernel_rfl)
    exact Musts.no (by decide) (fno7 _ w o ho)
  · exact Musts.yes (by decide) (fyes7 _ _ w fun w => must_has Tryz.underlying213 (by kernel_rfl) w)
  · exact Musts.yes (by decide) (fyes7 _ _ w fun w => must_has Tryz.underlying213 (by kernel_rfl) w)
  · obtain ⟨o, ho⟩ := must_lacks (t := 110) (x := 20) (v := _) Tryz.underlying213 (by kernel_rfl)
    exact Musts.no (by decide) (fno7 _ w o ho)
  · obtain ⟨o, ho⟩ := must_lacks (t := 135) (x := 20) (v := _) Tryz.underlying213 (by kernel_rfl)
    exact Musts.no (by decide) (fno7 _ w o ho)
  · obtain ⟨o, ho⟩ := must_lacks (t := 137) (x := 20) (v := _) Tryz.underlying213 (by kernel_rfl)
    exact Musts.no (by decide) (fno7 _ w o ho)
  · obtain ⟨o, ho⟩ := must_lacks (t := 140) (x := 20) (v := _) Tryz.underlying213 (by kernel_rfl)
    exact Musts.no (by decide) (fno7 _ w o ho)
  · obtain ⟨o, ho⟩ := must_lacks (t := 75) (x := 20) (v := _) Tryz.underlying213 (by kernel_rfl)
    exact Musts.no (by decide) (fno7 _ w o ho)
  · obtain ⟨o, ho⟩ := must_lacks (t := 141) (x := 20) (v := _) Tryz.underlying213 (by kernel_rfl)
    exact Musts.no (by decide) (fno7 _ w o ho)
  · obtain ⟨o, ho⟩ := must_lacks (t := 141) (x := 20) (v := _) Tryz.underlying213 (by kernel_rfl)
    exact Musts.no (by decide) (fno7 _ w o ho)
  · obtain ⟨o, ho⟩ := must_lacks (t := 143) (x := 20) (v := _) Tryz.underlying213 (by kernel_rfl)
    exact Musts.no (by decide) (fno7 _ w o ho)

set_option maxRecDepth 100000 in
set_option maxHeartbeats 1000000 in
theorem fno8 (u : Value) (w : World) (o : Obj) (h : ∀ w : World, (Instr.typeAssert u 20 215 false).run Tryz.prog w = .halt (.panic (.iface 15 (.pointer (some ⟨w.heap.size, 0, none⟩)))) (w.alloc o)) : Calls Tryz.prog 166 #[.agg #[], u] w fun e w' => Pan w w' e := by
  go_enter Tryz.func166, Tryz.ntmps166
  go_wp2
  exact ⟨rfl, _, rfl, below2 w _ _⟩
set_option maxRecDepth 100000 in
set_option maxHeartbeats 1000000 in
theorem fyes8 (t : TypeId) (z : Value) (w : World) (h : ∀ w : World, (Instr.typeAssert (.iface t z) 20 215 false).run Tryz.prog w = .ok (.iface t z) w) : Calls Tryz.prog 166 #[.agg #[], .iface t z] w fun e w' => e = .returned (.iface t z) ∧ Below w.heap.size w w' := by
  go_enter Tryz.func166, Tryz.ntmps166
  go_wp2
  go_ret
  exact ⟨rfl, below1 w _⟩
theorem fmu8 : Musts 166 (fun k => impl k 8) := by
  intro k u w hk
  rcases hk.cases with ⟨h0, rfl⟩ | ⟨rfl, a, rfl⟩ | ⟨rfl, a, rfl⟩ | ⟨rfl, a, rfl⟩ | ⟨rfl, a, rfl⟩ | ⟨rfl, a, rfl⟩ | ⟨rfl, a, rfl⟩ | ⟨rfl, a, rfl⟩ | ⟨rfl, a, rfl⟩ | ⟨rfl, a, b, rfl, ha, hb⟩ | ⟨rfl, c, a, rfl⟩ | ⟨rfl, a, rfl⟩ | ⟨rfl, rfl⟩ | ⟨rfl, rfl⟩
  · obtain ⟨o, ho⟩ := must_nil (x := 20) Tryz.underlying215
    exact Musts.no (impl_no h0 8) (fno8 _ w o ho)
  · exact Musts.yes (by decide) (fyes8 _ _ w fun w => must_has Tryz.underlying215 (by kernel_rfl) w)
  · obtain ⟨o, ho⟩ := must_lacks (t := 128) (x := 20) (v := _) Tryz.underlying215 (by kernel_rfl)
    exact Musts.no (by decide) (fno8 _ w o ho)
  · exact Musts.yes (by decide) (fyes8 _ _ w fun w => must_has Tryz.underlying215 (by kernel_rfl) w)
  · obtain ⟨o, ho⟩ := must_lacks (t := 131) (x := 20) (v := _) Tryz.underlying215 (by kernel_rfl)
    exact Musts.no (by decide) (fno8 _ w o ho)
  · obtain ⟨o, ho⟩ := must_lacks (t := 132) (x := 20) (v := _) Tryz.underlying215 (by kernel_rfl)
    exact Musts.no (by decide) (fno8 _ w o ho)
  · obtain ⟨o, ho⟩ := must_lacks (t := 110) (x := 20) (v := _) Tryz.underlying215 (by kernel_rfl)
    exact Musts.no (by decide) (fno8 _ w o ho)
  · obtain ⟨o, ho⟩ := must_lacks (t := 135) (x := 20) (v := _) Tryz.underlying215 (by kernel_rfl)
    exact Musts.no (by decide) (fno8 _ w o ho)
  · obtain ⟨o, ho⟩ := must_lacks (t := 137) (x := 20) (v := _) Tryz.underlying215 (by kernel_rfl)
    exact Musts.no (by decide) (fno8 _ w o ho)
  · obtain ⟨o, ho⟩ := must_lacks (t := 140) (x := 20) (v := _) Tryz.underlying215 (by kernel_rfl)
    exact Musts.no (by decide) (fno8 _ w o ho)
  · obtain ⟨o, ho⟩ := must_lacks (t := 75) (x := 20) (v := _) Tryz.underlying215 (by kernel_rfl)
    exact Musts.no (by decide) (fno8 _ w o ho)
  · obtain ⟨o, ho⟩ := must_lacks (t := 141) (x := 20) (v := _) Tryz.underlying215 (by kernel_rfl)
    exact Musts.no (by decide) (fno8 _ w o ho)
  · obtain ⟨o, ho⟩ := must_lacks (t := 141) (x := 20) (v := _) Tryz.underlying215 (by kernel_rfl)
    exact Musts.no (by decide) (fno8 _ w o ho)
  · obtain ⟨o, ho⟩ := must_lacks (t := 143) (x := 20) (v := _) Tryz.underlying215 (by kernel_rfl)
    exact Musts.no (by decide) (fno8 _ w o ho)

set_option maxRecDepth 100000 in
set_option maxHeartbeats 1000000 in
theorem fno9 (u : Value) (w : World) (o : Obj) (h : ∀ w : World, (Instr.typeAssert u 20 217 false).run Tryz.prog w = .halt (.panic (.iface 15 (.pointer (some ⟨w.heap.size, 0, none⟩)))) (w.alloc o)) : Calls Tryz.prog 168 #[.agg #[], u] w fun e w' => Pan w w' e := by
  go_enter Tryz.func168, Tryz.ntmps168
  go_wp2
  exact ⟨rfl, _, rfl, below2 w _ _⟩
set_option maxRecDepth 100000 in
set_option maxHeartbeats 1000000 in
theorem fyes9 (t : TypeId) (z : Value) (w : World) (h : ∀ w : World, (Instr.typeAssert (.iface t z) 20 217 false).run Tryz.prog w = .ok (.iface t z) w) : Calls Tryz.prog 168 #[.agg #[], .iface t z] w fun e w' => e = .returned (.iface t z) ∧ Below w.heap.size w w' := by
  go_enter Tryz.func168, Tryz.ntmps168
  go_wp2
  go_ret
  exact ⟨rfl, below1 w _⟩
theorem fmu9 : Musts 168 (fun k => impl k 9) := by
  intro k u w hk
  rcases hk.cases with ⟨h0, rfl⟩ | ⟨rfl, a, rfl⟩ | ⟨rfl, a, rfl⟩ | ⟨rfl, a, rfl⟩ | ⟨rfl, a, rfl⟩ | ⟨rfl, a, rfl⟩ | ⟨rfl, a, rfl⟩ | ⟨rfl, a, rfl⟩ | ⟨rfl, a, rfl⟩ | ⟨rfl, a, b, rfl, ha, hb⟩ | ⟨rfl, c, a, rfl⟩ | ⟨rfl, a, rfl⟩ | ⟨rfl, rfl⟩ | ⟨rfl, rfl⟩
  · obtain ⟨o, ho⟩ := must_nil (x := 20) Tryz.underlying217
    exact Musts.no (impl_no h0 9) (fno9 _ w o ho)
  · obtain ⟨o, ho⟩ := must_lacks (t := 113) (x := 20) (v := _) Tryz.underlying217 (by kernel_rfl)
    exact Musts.no (by decide) (fno9 _ w o ho)
  · obtain ⟨o, ho⟩ := must_lacks (t := 128) (x := 20) (v := _) Tryz.underlying217 (by kernel_rfl)
    exact Musts.no (by decide) (fno9 _ w o ho)
  · obtain ⟨o, ho⟩ := must_lacks (t := 129) (x := 20) (v := _) Tryz.underlying217 (by kernel_rfl)
    exact Musts.no (by decide) (fno9 _ w o ho)
  · obtain ⟨o, ho⟩ := must_lacks (t := 131) (x := 20) (v := _) Tryz.underlying217 (by kernel_rfl)
    exact Musts.no (by decide) (fno9 _ w o ho)
  · exact Musts.yes (by decide) (fyes9 _ _ w fun w => must_has Tryz.underlying217 (by kernel_rfl) w)
  · obtain ⟨o, ho⟩ := must_lacks (t := 110) (x := 20) (v := _) Tryz.underlying217 (by kernel_rfl)
    exact Musts.no (by decide) (fno9 _ w o ho)
  · obtain ⟨o, ho⟩ := must_lacks (t := 135) (x := 20) (v := _) Tryz.underlying217 (by kernel_rfl)
    exact Musts.no (by decide) (fno9 _ w o ho)
  · obtain ⟨o, ho⟩ := must_lacks (t := 137) (x := 20) (v := _) Tryz.underlying217 (by kernel_rfl)
    exact Musts.no (by decide) (fno9 _ w o ho)
  · obtain ⟨o, ho⟩ := must_lacks (t := 140) (x := 20) (v := _) Tryz.underlying217 (by kernel_rfl)
    exact Musts.no (by decide) (fno9 _ w o ho)
  · obtain ⟨o, ho⟩ := must_lacks (t := 75) (x := 20) (v := _) Tryz.underlying217 (by kernel_rfl)
    exact Musts.no (by decide) (fno9 _ w o ho)
  · obtain ⟨o, ho⟩ := must_lacks (t := 141) (x := 20) (v := _) Tryz.underlying217 (by kernel_rfl)
    exact Musts.no (by decide) (fno9 _ w o ho)
  · obtain ⟨o, ho⟩ := must_lacks (t := 141) (x := 20) (v := _) Tryz.underlying217 (by kernel_rfl)
    exact Musts.no (by decide) (fno9 _ w o ho)
  · obtain ⟨o, ho⟩ := must_lacks (t := 143) (x := 20) (v := _) Tryz.underlying217 (by kernel_rfl)
    exact Musts.no (by decide) (fno9 _ w o ho)

set_option maxRecDepth 100000 in
set_option maxHeartbeats 1000000 in
theorem fnoN (u : Value) (w : World) (o : Obj) (h : ∀ w : World, (Instr.typeAssert u 20 209 false).run Tryz.prog w = .halt (.panic (.iface 15 (.pointer (some ⟨w.heap.size, 0, none⟩)))) (w.alloc o)) : Calls Tryz.prog 145 #[.agg #[], u] w fun e w' => Pan w w' e := by
  go_enter Tryz.func145, Tryz.ntmps145
  go_wp2
  exact ⟨rfl, _, rfl, below2 w _ _⟩
theorem fmuN : Musts 145 (fun _ => false) := by
  intro k u w hk
  refine Musts.no (p := fun _ => false) (k := k) rfl ?_
  rcases hk.cases with ⟨h0, rfl⟩ | ⟨rfl, a, rfl⟩ | ⟨rfl, a, rfl⟩ | ⟨rfl, a, rfl⟩ | ⟨rfl, a, rfl⟩ | ⟨rfl, a, rfl⟩ | ⟨rfl, a, rfl⟩ | ⟨rfl, a, rfl⟩ | ⟨rfl, a, rfl⟩ | ⟨rfl, a, b, rfl, ha, hb⟩ | ⟨rfl, c, a, rfl⟩ | ⟨rfl, a, rfl⟩ | ⟨rfl, rfl⟩ | ⟨rfl, rfl⟩
  · obtain ⟨o, ho⟩ := must_nil (x := 20) Tryz.underlying209
    exact fnoN _ w o ho
  · obtain ⟨o, ho⟩ := must_ty (t := 113) (x := 20) (v := _) Tryz.underlying209 (fun m h => by cases h) (by decide)
    exact fnoN _ w o ho
  · obtain ⟨o, ho⟩ := must_ty (t := 128) (x := 20) (v := _) Tryz.underlying209 (fun m h => by cases h) (by decide)
    exact fnoN _ w o ho
  · obtain ⟨o, ho⟩ := must_ty (t := 129) (x := 20) (v := _) Tryz.underlying209 (fun m h => by cases h) (by decide)
    exact fnoN _ w o ho
  · obtain ⟨o, ho⟩ := must_ty (t := 131) (x := 20) (v := _) Tryz.underlying209 (fun m h => by cases h) (by decide)
    exact fnoN _ w o ho
  · obtain ⟨o, ho⟩ := must_ty (t := 132) (x := 20) (v := _) Tryz.underlying209 (fun m h => by cases h) (by decide)
    exact fnoN _ w o ho
  · obtain ⟨o, ho⟩ := must_ty (t := 110) (x := 20) (v := _) Tryz.underlying209 (fun m h => by cases h) (by decide)
    exact fnoN _ w o ho
  · obtain ⟨o, ho⟩ := must_ty (t := 135) (x := 20) (v := _) Tryz.underlying209 (fun m h => by cases h) (by decide)
    exact fnoN _ w o ho
  · obtain ⟨o, ho⟩ := must_ty (t := 137) (x := 20) (v := _) Tryz.underlying209 (fun m h => by cases h) (by decide)
    exact fnoN _ w o ho
  · obtain ⟨o, ho⟩ := must_ty (t := 140) (x := 20) (v := _) Tryz.underlying209 (fun m h => by cases h) (by decide)
    exact fnoN _ w o ho
  · obtain ⟨o, ho⟩ := must_ty (t := 75) (x := 20) (v := _) Tryz.underlying209 (fun m h => by cases h) (by decide)
    exact fnoN _ w o ho
  · obtain ⟨o, ho⟩ := must_ty (t := 141) (x := 20) (v := _) Tryz.underlying209 (fun m h => by cases h) (by decide)
    exact fnoN _ w o ho
  · obtain ⟨o, ho⟩ := must_ty (t := 141) (x := 20) (v := _) Tryz.underlying209 (fun m h => by cases h) (by decide)
    exact fnoN _ w o ho
  · obtain ⟨o, ho⟩ := must_ty (t := 143) (x := 20) (v := _) Tryz.underlying209 (fun m h => by cases h) (by decide)
    exact fnoN _ w o ho

/-- The question of type A and value av is asked, panicking, by function F. -/
def MethA (A : Nat) (av : Value) (F : Nat) : Prop := (∀ w : World, (method 320 A av "conduit/want.must").run Tryz.prog w = .ok (F, .agg #[]) w) ∧ ∀ (args : Array Value) (w : World), (callFunc F args).run Tryz.prog w = .ok (.enter F args) w

/-- Every interface's question is asked, panicking, by some function. -/
theorem face_musts (f : Int) : ∃ F, MethA 125 (.agg #[.iface (qfc f) (.agg #[]), .int .u8 (mbits f)]) F ∧ Musts F (fun k => impl k f) := by
  by_cases h : f < 0 ∨ 9 < f
  · have hq : qfc f = 164 := by
      unfold qfc
      rw [if_neg (show ¬ f = 0 by omega)]
      rw [if_neg (show ¬ f = 1 by omega)]
      rw [if_neg (show ¬ f = 2 by omega)]
      rw [if_neg (show ¬ f = 3 by omega)]
      rw [if_neg (show ¬ f = 4 by omega)]
      rw [if_neg (show ¬ f = 5 by omega)]
      rw [if_neg (show ¬ f = 6 by omega)]
      rw [if_neg (show ¬ f = 7 by omega)]
      rw [if_neg (show ¬ f = 8 by omega)]
      rw [if_neg (show ¬ f = 9 by omega)]
    rw [hq]
    refine ⟨145, ⟨fun _ => by kernel_rfl, fun _ _ => by kernel_rfl⟩, ?_⟩
    have : (fun k => impl k f) = fun _ => false := funext fun k => impl_none k f h
    rw [this]
    exact fmuN
  have hk : f = 0 ∨ f = 1 ∨ f = 2 ∨ f = 3 ∨ f = 4 ∨ f = 5 ∨ f = 6 ∨ f = 7 ∨ f = 8 ∨ f = 9 := by omega
  rcases hk with rfl | rfl | rfl | rfl | rfl | rfl | rfl | rfl | rfl | rfl
  · exact ⟨150, ⟨fun _ => by kernel_rfl, fun _ _ => by kernel_rfl⟩, fmu0⟩
  · exact ⟨152, ⟨fun _ => by kernel_rfl, fun _ _ => by kernel_rfl⟩, fmu1⟩
  · exact ⟨154, ⟨fun _ => by kernel_rfl, fun _ _ => by kernel_rfl⟩, fmu2⟩
  · exact ⟨156, ⟨fun _ => by kernel_rfl, fun _ _ => by kernel_rfl⟩, fmu3⟩
  · exact ⟨158, ⟨fun _ => by kernel_rfl, fun _ _ => by kernel_rfl⟩, fmu4⟩
  · exact ⟨160, ⟨fun _ => by kernel_rfl, fun _ _ => by kernel_rfl⟩, fmu5⟩
  · exact ⟨162, ⟨fun _ => by kernel_rfl, fun _ _ => by kernel_rfl⟩, fmu6⟩
  · exact ⟨164, ⟨fun _ => by kernel_rfl, fun _ _ => by kernel_rfl⟩, fmu7⟩
  · exact ⟨166, ⟨fun _ => by kernel_rfl, fun _ _ => by kernel_rfl⟩, fmu8⟩
  · exact ⟨168, ⟨fun _ => by kernel_rfl, fun _ _ => by kernel_rfl⟩, fmu9⟩
end Go.Proofs.YthamafijjflfbaaGreat
