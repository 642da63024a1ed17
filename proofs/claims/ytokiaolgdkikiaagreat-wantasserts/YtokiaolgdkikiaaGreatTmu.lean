/- Each type's question in the form that panics: the value itself, where it has the type, else the panic; no condition. -/
import Derived.Test.YtokiaolgdkikiaaGreatFmu
import Derived.Test.YtokiaolgdkikiaaGreatImp
namespace Go.Proofs.YtokiaolgdkikiaaGreat
open Go.RowKit

theorem tkd_no {k : Int} (h : k < 1 ∨ 13 < k) (m : Int) : tkd m k = false := by
  unfold tkd
  by_cases hm : 1 ≤ m ∧ m ≤ 13
  · have h1 : (k == m) = false := by simp; omega
    have h2 : (k == 12) = false := by simp; omega
    rw [h1, h2]; simp
  · rw [decide_eq_false hm]; rfl

set_option maxRecDepth 100000 in
set_option maxHeartbeats 1000000 in
theorem tno1 (u : Value) (w : World) (o : Obj) (h : ∀ w : World, (Instr.typeAssert u 20 105 false).run Tryz.prog w = .halt (.panic (.iface 15 (.pointer (some ⟨w.heap.size, 0, none⟩)))) (w.alloc o)) : Calls Tryz.prog 113 #[.agg #[], u] w fun e w' => Pan w w' e := by
  go_enter Tryz.func113, Tryz.ntmps113
  go_wp2
  exact ⟨rfl, _, rfl, below2 w _ _⟩
set_option maxRecDepth 100000 in
set_option maxHeartbeats 1000000 in
theorem tyes1 (z : Value) (w : World) : Calls Tryz.prog 113 #[.agg #[], .iface 105 (z)] w fun e w' => e = .returned (.iface 105 (z)) ∧ Below w.heap.size w w' := by
  have h : ∀ w : World, (Instr.typeAssert (.iface 105 (z)) 20 105 false).run Tryz.prog w = .ok (z) w := fun w => must_is Tryz.underlying105 (fun m h => by cases h) w
  go_enter Tryz.func113, Tryz.ntmps113
  go_wp2
  go_ret
  exact ⟨rfl, below1 w _⟩
theorem tmu1 : Musts 113 (tkd 1) := by
  intro k u w hk
  rcases hk.cases with ⟨h0, rfl⟩ | ⟨rfl, a, rfl⟩ | ⟨rfl, a, rfl⟩ | ⟨rfl, a, rfl⟩ | ⟨rfl, a, rfl⟩ | ⟨rfl, a, rfl⟩ | ⟨rfl, a, rfl⟩ | ⟨rfl, a, rfl⟩ | ⟨rfl, a, rfl⟩ | ⟨rfl, a, b, rfl, ha, hb⟩ | ⟨rfl, c, a, rfl⟩ | ⟨rfl, a, rfl⟩ | ⟨rfl, rfl⟩ | ⟨rfl, rfl⟩
  · obtain ⟨o, ho⟩ := must_nil (x := 20) Tryz.underlying105
    exact Musts.no (tkd_no h0 1) (tno1 _ w o ho)
  · exact Musts.yes (by decide) (tyes1 _ w)
  · obtain ⟨o, ho⟩ := must_ty (t := 106) (x := 20) (v := _) Tryz.underlying105 (fun m h => by cases h) (by decide)
    exact Musts.no (by decide) (tno1 _ w o ho)
  · obtain ⟨o, ho⟩ := must_ty (t := 108) (x := 20) (v := _) Tryz.underlying105 (fun m h => by cases h) (by decide)
    exact Musts.no (by decide) (tno1 _ w o ho)
  · obtain ⟨o, ho⟩ := must_ty (t := 110) (x := 20) (v := _) Tryz.underlying105 (fun m h => by cases h) (by decide)
    exact Musts.no (by decide) (tno1 _ w o ho)
  · obtain ⟨o, ho⟩ := must_ty (t := 111) (x := 20) (v := _) Tryz.underlying105 (fun m h => by cases h) (by decide)
    exact Musts.no (by decide) (tno1 _ w o ho)
  · obtain ⟨o, ho⟩ := must_ty (t := 112) (x := 20) (v := _) Tryz.underlying105 (fun m h => by cases h) (by decide)
    exact Musts.no (by decide) (tno1 _ w o ho)
  · obtain ⟨o, ho⟩ := must_ty (t := 115) (x := 20) (v := _) Tryz.underlying105 (fun m h => by cases h) (by decide)
    exact Musts.no (by decide) (tno1 _ w o ho)
  · obtain ⟨o, ho⟩ := must_ty (t := 117) (x := 20) (v := _) Tryz.underlying105 (fun m h => by cases h) (by decide)
    exact Musts.no (by decide) (tno1 _ w o ho)
  · obtain ⟨o, ho⟩ := must_ty (t := 120) (x := 20) (v := _) Tryz.underlying105 (fun m h => by cases h) (by decide)
    exact Musts.no (by decide) (tno1 _ w o ho)
  · obtain ⟨o, ho⟩ := must_ty (t := 122) (x := 20) (v := _) Tryz.underlying105 (fun m h => by cases h) (by decide)
    exact Musts.no (by decide) (tno1 _ w o ho)
  · obtain ⟨o, ho⟩ := must_ty (t := 123) (x := 20) (v := _) Tryz.underlying105 (fun m h => by cases h) (by decide)
    exact Musts.no (by decide) (tno1 _ w o ho)
  · obtain ⟨o, ho⟩ := must_ty (t := 123) (x := 20) (v := _) Tryz.underlying105 (fun m h => by cases h) (by decide)
    exact Musts.no (by decide) (tno1 _ w o ho)
  · obtain ⟨o, ho⟩ := must_ty (t := 125) (x := 20) (v := _) Tryz.underlying105 (fun m h => by cases h) (by decide)
    exact Musts.no (by decide) (tno1 _ w o ho)

set_option maxRecDepth 100000 in
set_option maxHeartbeats 1000000 in
theorem tno2 (u : Value) (w : World) (o : Obj) (h : ∀ w : World, (Instr.typeAssert u 20 106 false).run Tryz.prog w = .halt (.panic (.iface 15 (.pointer (some ⟨w.heap.size, 0, none⟩)))) (w.alloc o)) : Calls Tryz.prog 115 #[.agg #[], u] w fun e w' => Pan w w' e := by
  go_enter Tryz.func115, Tryz.ntmps115
  go_wp2
  exact ⟨rfl, _, rfl, below2 w _ _⟩
set_option maxRecDepth 100000 in
set_option maxHeartbeats 1000000 in
theorem tyes2 (z : Value) (w : World) : Calls Tryz.prog 115 #[.agg #[], .iface 106 (z)] w fun e w' => e = .returned (.iface 106 (z)) ∧ Below w.heap.size w w' := by
  have h : ∀ w : World, (Instr.typeAssert (.iface 106 (z)) 20 106 false).run Tryz.prog w = .ok (z) w := fun w => must_is Tryz.underlying106 (fun m h => by cases h) w
  go_enter Tryz.func115, Tryz.ntmps115
  go_wp2
  go_ret
  exact ⟨rfl, below1 w _⟩
theorem tmu2 : Musts 115 (tkd 2) := by
  intro k u w hk
  rcases hk.cases with ⟨h0, rfl⟩ | ⟨rfl, a, rfl⟩ | ⟨rfl, a, rfl⟩ | ⟨rfl, a, rfl⟩ | ⟨rfl, a, rfl⟩ | ⟨rfl, a, rfl⟩ | ⟨rfl, a, rfl⟩ | ⟨rfl, a, rfl⟩ | ⟨rfl, a, rfl⟩ | ⟨rfl, a, b, rfl, ha, hb⟩ | ⟨rfl, c, a, rfl⟩ | ⟨rfl, a, rfl⟩ | ⟨rfl, rfl⟩ | ⟨rfl, rfl⟩
  · obtain ⟨o, ho⟩ := must_nil (x := 20) Tryz.underlying106
    exact Musts.no (tkd_no h0 2) (tno2 _ w o ho)
  · obtain ⟨o, ho⟩ := must_ty (t := 105) (x := 20) (v := _) Tryz.underlying106 (fun m h => by cases h) (by decide)
    exact Musts.no (by decide) (tno2 _ w o ho)
  · exact Musts.yes (by decide) (tyes2 _ w)
  · obtain ⟨o, ho⟩ := must_ty (t := 108) (x := 20) (v := _) Tryz.underlying106 (fun m h => by cases h) (by decide)
    exact Musts.no (by decide) (tno2 _ w o ho)
  · obtain ⟨o, ho⟩ := must_ty (t := 110) (x := 20) (v := _) Tryz.underlying106 (fun m h => by cases h) (by decide)
    exact Musts.no (by decide) (tno2 _ w o ho)
  · obtain ⟨o, ho⟩ := must_ty (t := 111) (x := 20) (v := _) Tryz.underlying106 (fun m h => by cases h) (by decide)
    exact Musts.no (by decide) (tno2 _ w o ho)
  · obtain ⟨o, ho⟩ := must_ty (t := 112) (x := 20) (v := _) Tryz.underlying106 (fun m h => by cases h) (by decide)
    exact Musts.no (by decide) (tno2 _ w o ho)
  · obtain ⟨o, ho⟩ := must_ty (t := 115) (x := 20) (v := _) Tryz.underlying106 (fun m h => by cases h) (by decide)
    exact Musts.no (by decide) (tno2 _ w o ho)
  · obtain ⟨o, ho⟩ := must_ty (t := 117) (x := 20) (v := _) Tryz.underlying106 (fun m h => by cases h) (by decide)
    exact Musts.no (by decide) (tno2 _ w o ho)
  · obtain ⟨o, ho⟩ := must_ty (t := 120) (x := 20) (v := _) Tryz.underlying106 (fun m h => by cases h) (by decide)
    exact Musts.no (by decide) (tno2 _ w o ho)
  · obtain ⟨o, ho⟩ := must_ty (t := 122) (x := 20) (v := _) Tryz.underlying106 (fun m h => by cases h) (by decide)
    exact Musts.no (by decide) (tno2 _ w o ho)
  · obtain ⟨o, ho⟩ := must_ty (t := 123) (x := 20) (v := _) Tryz.underlying106 (fun m h => by cases h) (by decide)
    exact Musts.no (by decide) (tno2 _ w o ho)
  · obtain ⟨o, ho⟩ := must_ty (t := 123) (x := 20) (v := _) Tryz.underlying106 (fun m h => by cases h) (by decide)
    exact Musts.no (by decide) (tno2 _ w o ho)
  · obtain ⟨o, ho⟩ := must_ty (t := 125) (x := 20) (v := _) Tryz.underlying106 (fun m h => by cases h) (by decide)
    exact Musts.no (by decide) (tno2 _ w o ho)

set_option maxRecDepth 100000 in
set_option maxHeartbeats 1000000 in
theorem tno3 (u : Value) (w : World) (o : Obj) (h : ∀ w : World, (Instr.typeAssert u 20 108 false).run Tryz.prog w = .halt (.panic (.iface 15 (.pointer (some ⟨w.heap.size, 0, none⟩)))) (w.alloc o)) : Calls Tryz.prog 117 #[.agg #[], u] w fun e w' => Pan w w' e := by
  go_enter Tryz.func117, Tryz.ntmps117
  go_wp2
  exact ⟨rfl, _, rfl, below2 w _ _⟩
set_option maxRecDepth 100000 in
set_option maxHeartbeats 1000000 in
theorem tyes3 (z : Value) (w : World) : Calls Tryz.prog 117 #[.agg #[], .iface 108 (z)] w fun e w' => e = .returned (.iface 108 (z)) ∧ Below w.heap.size w w' := by
  have h : ∀ w : World, (Instr.typeAssert (.iface 108 (z)) 20 108 false).run Tryz.prog w = .ok (z) w := fun w => must_is Tryz.underlying108 (fun m h => by cases h) w
  go_enter Tryz.func117, Tryz.ntmps117
  go_wp2
  go_ret
  exact ⟨rfl, below1 w _⟩
theorem tmu3 : Musts 117 (tkd 3) := by
  intro k u w hk
  rcases hk.cases with ⟨h0, rfl⟩ | ⟨rfl, a, rfl⟩ | ⟨rfl, a, rfl⟩ | ⟨rfl, a, rfl⟩ | ⟨rfl, a, rfl⟩ | ⟨rfl, a, rfl⟩ | ⟨rfl, a, rfl⟩ | ⟨rfl, a, rfl⟩ | ⟨rfl, a, rfl⟩ | ⟨rfl, a, b, rfl, ha, hb⟩ | ⟨rfl, c, a, rfl⟩ | ⟨rfl, a, rfl⟩ | ⟨rfl, rfl⟩ | ⟨rfl, rfl⟩
  · obtain ⟨o, ho⟩ := must_nil (x := 20) Tryz.underlying108
    exact Musts.no (tkd_no h0 3) (tno3 _ w o ho)
  · obtain ⟨o, ho⟩ := must_ty (t := 105) (x := 20) (v := _) Tryz.underlying108 (fun m h => by cases h) (by decide)
    exact Musts.no (by decide) (tno3 _ w o ho)
  · obtain ⟨o, ho⟩ := must_ty (t := 106) (x := 20) (v := _) Tryz.underlying108 (fun m h => by cases h) (by decide)
    exact Musts.no (by decide) (tno3 _ w o ho)
  · exact Musts.yes (by decide) (tyes3 _ w)
  · obtain ⟨o, ho⟩ := must_ty (t := 110) (x := 20) (v := _) Tryz.underlying108 (fun m h => by cases h) (by decide)
    exact Musts.no (by decide) (tno3 _ w o ho)
  · obtain ⟨o, ho⟩ := must_ty (t := 111) (x := 20) (v := _) Tryz.underlying108 (fun m h => by cases h) (by decide)
    exact Musts.no (by decide) (tno3 _ w o ho)
  · obtain ⟨o, ho⟩ := must_ty (t := 112) (x := 20) (v := _) Tryz.underlying108 (fun m h => by cases h) (by decide)
    exact Musts.no (by decide) (tno3 _ w o ho)
  · obtain ⟨o, ho⟩ := must_ty (t := 115) (x := 20) (v := _) Tryz.underlying108 (fun m h => by cases h) (by decide)
    exact Musts.no (by decide) (tno3 _ w o ho)
  · obtain ⟨o, ho⟩ := must_ty (t := 117) (x := 20) (v := _) Tryz.underlying108 (fun m h => by cases h) (by decide)
    exact Musts.no (by decide) (tno3 _ w o ho)
  · obtain ⟨o, ho⟩ := must_ty (t := 120) (x := 20) (v := _) Tryz.underlying108 (fun m h => by cases h) (by decide)
    exact Musts.no (by decide) (tno3 _ w o ho)
  · obtain ⟨o, ho⟩ := must_ty (t := 122) (x := 20) (v := _) Tryz.underlying108 (fun m h => by cases h) (by decide)
    exact Musts.no (by decide) (tno3 _ w o ho)
  · obtain ⟨o, ho⟩ := must_ty (t := 123) (x := 20) (v := _) Tryz.underlying108 (fun m h => by cases h) (by decide)
    exact Musts.no (by decide) (tno3 _ w o ho)
  · obtain ⟨o, ho⟩ := must_ty (t := 123) (x := 20) (v := _) Tryz.underlying108 (fun m h => by cases h) (by decide)
    exact Musts.no (by decide) (tno3 _ w o ho)
  · obtain ⟨o, ho⟩ := must_ty (t := 125) (x := 20) (v := _) Tryz.underlying108 (fun m h => by cases h) (by decide)
    exact Musts.no (by decide) (tno3 _ w o ho)

set_option maxRecDepth 100000 in
set_option maxHeartbeats 1000000 in
theorem tno4 (u : Value) (w : World) (o : Obj) (h : ∀ w : World, (Instr.typeAssert u 20 110 false).run Tryz.prog w = .halt (.panic (.iface 15 (.pointer (some ⟨w.heap.size, 0, none⟩)))) (w.alloc o)) : Calls Tryz.prog 119 #[.agg #[], u] w fun e w' => Pan w w' e := by
  go_enter Tryz.func119, Tryz.ntmps119
  go_wp2
  exact ⟨rfl, _, rfl, below2 w _ _⟩
set_option maxRecDepth 100000 in
set_option maxHeartbeats 1000000 in
theorem tyes4 (z : Value) (w : World) : Calls Tryz.prog 119 #[.agg #[], .iface 110 (z)] w fun e w' => e = .returned (.iface 110 (z)) ∧ Below w.heap.size w w' := by
  have h : ∀ w : World, (Instr.typeAssert (.iface 110 (z)) 20 110 false).run Tryz.prog w = .ok (z) w := fun w => must_is Tryz.underlying110 (fun m h => by cases h) w
  go_enter Tryz.func119, Tryz.ntmps119
  go_wp2
  go_ret
  exact ⟨rfl, below1 w _⟩
theorem tmu4 : Musts 119 (tkd 4) := by
  intro k u w hk
  rcases hk.cases with ⟨h0, rfl⟩ | ⟨rfl, a, rfl⟩ | ⟨rfl, a, rfl⟩ | ⟨rfl, a, rfl⟩ | ⟨rfl, a, rfl⟩ | ⟨rfl, a, rfl⟩ | ⟨rfl, a, rfl⟩ | ⟨rfl, a, rfl⟩ | ⟨rfl, a, rfl⟩ | ⟨rfl, a, b, rfl, ha, hb⟩ | ⟨rfl, c, a, rfl⟩ | ⟨rfl, a, rfl⟩ | ⟨rfl, rfl⟩ | ⟨rfl, rfl⟩
  · obtain ⟨o, ho⟩ := must_nil (x := 20) Tryz.underlying110
    exact Musts.no (tkd_no h0 4) (tno4 _ w o ho)
  · obtain ⟨o, ho⟩ := must_ty (t := 105) (x := 20) (v := _) Tryz.underlying110 (fun m h => by cases h) (by decide)
    exact Musts.no (by decide) (tno4 _ w o ho)
  · obtain ⟨o, ho⟩ := must_ty (t := 106) (x := 20) (v := _) Tryz.underlying110 (fun m h => by cases h) (by decide)
    exact Musts.no (by decide) (tno4 _ w o ho)
  · obtain ⟨o, ho⟩ := must_ty (t := 108) (x := 20) (v := _) Tryz.underlying110 (fun m h => by cases h) (by decide)
    exact Musts.no (by decide) (tno4 _ w o ho)
  · exact Musts.yes (by decide) (tyes4 _ w)
  · obtain ⟨o, ho⟩ := must_ty (t := 111) (x := 20) (v := _) Tryz.underlying110 (fun m h => by cases h) (by decide)
    exact Musts.no (by decide) (tno4 _ w o ho)
  · obtain ⟨o, ho⟩ := must_ty (t := 112) (x := 20) (v := _) Tryz.underlying110 (fun m h => by cases h) (by decide)
    exact Musts.no (by decide) (tno4 _ w o ho)
  · obtain ⟨o, ho⟩ := must_ty (t := 115) (x := 20) (v := _) Tryz.underlying110 (fun m h => by cases h) (by decide)
    exact Musts.no (by decide) (tno4 _ w o ho)
  · obtain ⟨o, ho⟩ := must_ty (t := 117) (x := 20) (v := _) Tryz.underlying110 (fun m h => by cases h) (by decide)
    exact Musts.no (by decide) (tno4 _ w o ho)
  · obtain ⟨o, ho⟩ := must_ty (t := 120) (x := 20) (v := _) Tryz.underlying110 (fun m h => by cases h) (by decide)
    exact Musts.no (by decide) (tno4 _ w o ho)
  · obtain ⟨o, ho⟩ := must_ty (t := 122) (x := 20) (v := _) Tryz.underlying110 (fun m h => by cases h) (by decide)
    exact Musts.no (by decide) (tno4 _ w o ho)
  · obtain ⟨o, ho⟩ := must_ty (t := 123) (x := 20) (v := _) Tryz.underlying110 (fun m h => by cases h) (by decide)
    exact Musts.no (by decide) (tno4 _ w o ho)
  · obtain ⟨o, ho⟩ := must_ty (t := 123) (x := 20) (v := _) Tryz.underlying110 (fun m h => by cases h) (by decide)
    exact Musts.no (by decide) (tno4 _ w o ho)
  · obtain ⟨o, ho⟩ := must_ty (t := 125) (x := 20) (v := _) Tryz.underlying110 (fun m h => by cases h) (by decide)
    exact Musts.no (by decide) (tno4 _ w o ho)

set_option maxRecDepth 100000 in
set_option maxHeartbeats 1000000 in
theorem tno5 (u : Value) (w : World) (o : Obj) (h : ∀ w : World, (Instr.typeAssert u 20 111 false).run Tryz.prog w = .halt (.panic (.iface 15 (.pointer (some ⟨w.heap.size, 0, none⟩)))) (w.alloc o)) : Calls Tryz.prog 121 #[.agg #[], u] w fun e w' => Pan w w' e := by
  go_enter Tryz.func121, Tryz.ntmps121
  go_wp2
  exact ⟨rfl, _, rfl, below2 w _ _⟩
set_option maxRecDepth 100000 in
set_option maxHeartbeats 1000000 in
theorem tyes5 (z : Value) (w : World) : Calls Tryz.prog 121 #[.agg #[], .iface 111 (z)] w fun e w' => e = .returned (.iface 111 (z)) ∧ Below w.heap.size w w' := by
  have h : ∀ w : World, (Instr.typeAssert (.iface 111 (z)) 20 111 false).run Tryz.prog w = .ok (z) w := fun w => must_is Tryz.underlying111 (fun m h => by cases h) w
  go_enter Tryz.func121, Tryz.ntmps121
  go_wp2
  go_ret
  exact ⟨rfl, below1 w _⟩
theorem tmu5 : Musts 121 (tkd 5) := by
  intro k u w hk
  rcases hk.cases with ⟨h0, rfl⟩ | ⟨rfl, a, rfl⟩ | ⟨rfl, a, rfl⟩ | ⟨rfl, a, rfl⟩ | ⟨rfl, a, rfl⟩ | ⟨rfl, a, rfl⟩ | ⟨rfl, a, rfl⟩ | ⟨rfl, a, rfl⟩ | ⟨rfl, a, rfl⟩ | ⟨rfl, a, b, rfl, ha, hb⟩ | ⟨rfl, c, a, rfl⟩ | ⟨rfl, a, rfl⟩ | ⟨rfl, rfl⟩ | ⟨rfl, rfl⟩
  · obtain ⟨o, ho⟩ := must_nil (x := 20) Tryz.underlying111
    exact Musts.no (tkd_no h0 5) (tno5 _ w o ho)
  · obtain ⟨o, ho⟩ := must_ty (t := 105) (x := 20) (v := _) Tryz.underlying111 (fun m h => by cases h) (by decide)
    exact Musts.no (by decide) (tno5 _ w o ho)
  · obtain ⟨o, ho⟩ := must_ty (t := 106) (x := 20) (v := _) Tryz.underlying111 (fun m h => by cases h) (by decide)
    exact Musts.no (by decide) (tno5 _ w o ho)
  · obtain ⟨o, ho⟩ := must_ty (t := 108) (x := 20) (v := _) Tryz.underlying111 (fun m h => by cases h) (by decide)
    exact Musts.no (by decide) (tno5 _ w o ho)
  · obtain ⟨o, ho⟩ := must_ty (t := 110) (x := 20) (v := _) Tryz.underlying111 (fun m h => by cases h) (by decide)
    exact Musts.no (by decide) (tno5 _ w o ho)
  · exact Musts.yes (by decide) (tyes5 _ w)
  · obtain ⟨o, ho⟩ := must_ty (t := 112) (x := 20) (v := _) Tryz.underlying111 (fun m h => by cases h) (by decide)
    exact Musts.no (by decide) (tno5 _ w o ho)
  · obtain ⟨o, ho⟩ := must_ty (t := 115) (x := 20) (v := _) Tryz.underlying111 (fun m h => by cases h) (by decide)
    exact Musts.no (by decide) (tno5 _ w o ho)
  · obtain ⟨o, ho⟩ := must_ty (t := 117) (x := 20) (v := _) Tryz.underlying111 (fun m h => by cases h) (by decide)
    exact Musts.no (by decide) (tno5 _ w o ho)
  · obtain ⟨o, ho⟩ := must_ty (t := 120) (x := 20) (v := _) Tryz.underlying111 (fun m h => by cases h) (by decide)
    exact Musts.no (by decide) (tno5 _ w o ho)
  · obtain ⟨o, ho⟩ := must_ty (t := 122) (x := 20) (v := _) Tryz.underlying111 (fun m h => by cases h) (by decide)
    exact Musts.no (by decide) (tno5 _ w o ho)
  · obtain ⟨o, ho⟩ := must_ty (t := 123) (x := 20) (v := _) Tryz.underlying111 (fun m h => by cases h) (by decide)
    exact Musts.no (by decide) (tno5 _ w o ho)
  · obtain ⟨o, ho⟩ := must_ty (t := 123) (x := 20) (v := _) Tryz.underlying111 (fun m h => by cases h) (by decide)
    exact Musts.no (by decide) (tno5 _ w o ho)
  · obtain ⟨o, ho⟩ := must_ty (t := 125) (x := 20) (v := _) Tryz.underlying111 (fun m h => by cases h) (by decide)
    exact Musts.no (by decide) (tno5 _ w o ho)

set_option maxRecDepth 100000 in
set_option maxHeartbeats 1000000 in
theorem tno6 (u : Value) (w : World) (o : Obj) (h : ∀ w : World, (Instr.typeAssert u 20 112 false).run Tryz.prog w = .halt (.panic (.iface 15 (.pointer (some ⟨w.heap.size, 0, none⟩)))) (w.alloc o)) : Calls Tryz.prog 123 #[.agg #[], u] w fun e w' => Pan w w' e := by
  go_enter Tryz.func123, Tryz.ntmps123
  go_wp2
  exact ⟨rfl, _, rfl, below2 w _ _⟩
set_option maxRecDepth 100000 in
set_option maxHeartbeats 1000000 in
theorem tyes6 (z : Value) (w : World) : Calls Tryz.prog 123 #[.agg #[], .iface 112 (z)] w fun e w' => e = .returned (.iface 112 (z)) ∧ Below w.heap.size w w' := by
  have h : ∀ w : World, (Instr.typeAssert (.iface 112 (z)) 20 112 false).run Tryz.prog w = .ok (z) w := fun w => must_is Tryz.underlying112 (fun m h => by cases h) w
  go_enter Tryz.func123, Tryz.ntmps123
  go_wp2
  go_ret
  exact ⟨rfl, below1 w _⟩
theorem tmu6 : Musts 123 (tkd 6) := by
  intro k u w hk
  rcases hk.cases with ⟨h0, rfl⟩ | ⟨rfl, a, rfl⟩ | ⟨rfl, a, rfl⟩ | ⟨rfl, a, rfl⟩ | ⟨rfl, a, rfl⟩ | ⟨rfl, a, rfl⟩ | ⟨rfl, a, rfl⟩ | ⟨rfl, a, rfl⟩ | ⟨rfl, a, rfl⟩ | ⟨rfl, a, b, rfl, ha, hb⟩ | ⟨rfl, c, a, rfl⟩ | ⟨rfl, a, rfl⟩ | ⟨rfl, rfl⟩ | ⟨rfl, rfl⟩
  · obtain ⟨o, ho⟩ := must_nil (x := 20) Tryz.underlying112
    exact Musts.no (tkd_no h0 6) (tno6 _ w o ho)
  · obtain ⟨o, ho⟩ := must_ty (t := 105) (x := 20) (v := _) Tryz.underlying112 (fun m h => by cases h) (by decide)
    exact Musts.no (by decide) (tno6 _ w o ho)
  · obtain ⟨o, ho⟩ := must_ty (t := 106) (x := 20) (v := _) Tryz.underlying112 (fun m h => by cases h) (by decide)
    exact Musts.no (by decide) (tno6 _ w o ho)
  · obtain ⟨o, ho⟩ := must_ty (t := 108) (x := 20) (v := _) Tryz.underlying112 (fun m h => by cases h) (by decide)
    exact Musts.no (by decide) (tno6 _ w o ho)
  · obtain ⟨o, ho⟩ := must_ty (t := 110) (x := 20) (v := _) Tryz.underlying112 (fun m h => by cases h) (by decide)
    exact Musts.no (by decide) (tno6 _ w o ho)
  · obtain ⟨o, ho⟩ := must_ty (t := 111) (x := 20) (v := _) Tryz.underlying112 (fun m h => by cases h) (by decide)
    exact Musts.no (by decide) (tno6 _ w o ho)
  · exact Musts.yes (by decide) (tyes6 _ w)
  · obtain ⟨o, ho⟩ := must_ty (t := 115) (x := 20) (v := _) Tryz.underlying112 (fun m h => by cases h) (by decide)
    exact Musts.no (by decide) (tno6 _ w o ho)
  · obtain ⟨o, ho⟩ := must_ty (t := 117) (x := 20) (v := _) Tryz.underlying112 (fun m h => by cases h) (by decide)
    exact Musts.no (by decide) (tno6 _ w o ho)
  · obtain ⟨o, ho⟩ := must_ty (t := 120) (x := 20) (v := _) Tryz.underlying112 (fun m h => by cases h) (by decide)
    exact Musts.no (by decide) (tno6 _ w o ho)
  · obtain ⟨o, ho⟩ := must_ty (t := 122) (x := 20) (v := _) Tryz.underlying112 (fun m h => by cases h) (by decide)
    exact Musts.no (by decide) (tno6 _ w o ho)
  · obtain ⟨o, ho⟩ := must_ty (t := 123) (x := 20) (v := _) Tryz.underlying112 (fun m h => by cases h) (by decide)
    exact Musts.no (by decide) (tno6 _ w o ho)
  · obtain ⟨o, ho⟩ := must_ty (t := 123) (x := 20) (v := _) Tryz.underlying112 (fun m h => by cases h) (by decide)
    exact Musts.no (by decide) (tno6 _ w o ho)
  · obtain ⟨o, ho⟩ := must_ty (t := 125) (x := 20) (v := _) Tryz.underlying112 (fun m h => by cases h) (by decide)
    exact Musts.no (by decide) (tno6 _ w o ho)

set_option maxRecDepth 100000 in
set_option maxHeartbeats 1000000 in
theorem tno7 (u : Value) (w : World) (o : Obj) (h : ∀ w : World, (Instr.typeAssert u 20 115 false).run Tryz.prog w = .halt (.panic (.iface 15 (.pointer (some ⟨w.heap.size, 0, none⟩)))) (w.alloc o)) : Calls Tryz.prog 125 #[.agg #[], u] w fun e w' => Pan w w' e := by
  go_enter Tryz.func125, Tryz.ntmps125
  go_wp2
  exact ⟨rfl, _, rfl, below2 w _ _⟩
set_option maxRecDepth 100000 in
set_option maxHeartbeats 1000000 in
theorem tyes7 (z : Value) (w : World) : Calls Tryz.prog 125 #[.agg #[], .iface 115 (z)] w fun e w' => e = .returned (.iface 115 (z)) ∧ Below w.heap.size w w' := by
  have h : ∀ w : World, (Instr.typeAssert (.iface 115 (z)) 20 115 false).run Tryz.prog w = .ok (z) w := fun w => must_is Tryz.underlying115 (fun m h => by cases h) w
  go_enter Tryz.func125, Tryz.ntmps125
  go_wp2
  go_ret
  exact ⟨rfl, below1 w _⟩
theorem tmu7 : Musts 125 (tkd 7) := by
  intro k u w hk
  rcases hk.cases with ⟨h0, rfl⟩ | ⟨rfl, a, rfl⟩ | ⟨rfl, a, rfl⟩ | ⟨rfl, a, rfl⟩ | ⟨rfl, a, rfl⟩ | ⟨rfl, a, rfl⟩ | ⟨rfl, a, rfl⟩ | ⟨rfl, a, rfl⟩ | ⟨rfl, a, rfl⟩ | ⟨rfl, a, b, rfl, ha, hb⟩ | ⟨rfl, c, a, rfl⟩ | ⟨rfl, a, rfl⟩ | ⟨rfl, rfl⟩ | ⟨rfl, rfl⟩
  · obtain ⟨o, ho⟩ := must_nil (x := 20) Tryz.underlying115
    exact Musts.no (tkd_no h0 7) (tno7 _ w o ho)
  · obtain ⟨o, ho⟩ := must_ty (t := 105) (x := 20) (v := _) Tryz.underlying115 (fun m h => by cases h) (by decide)
    exact Musts.no (by decide) (tno7 _ w o ho)
  · obtain ⟨o, ho⟩ := must_ty (t := 106) (x := 20) (v := _) Tryz.underlying115 (fun m h => by cases h) (by decide)
    exact Musts.no (by decide) (tno7 _ w o ho)
  · obtain ⟨o, ho⟩ := must_ty (t := 108) (x := 20) (v := _) Tryz.underlying115 (fun m h => by cases h) (by decide)
    exact Musts.no (by decide) (tno7 _ w o ho)
  · obtain ⟨o, ho⟩ := must_ty (t := 110) (x := 20) (v := _) Tryz.underlying115 (fun m h => by cases h) (by decide)
    exact Musts.no (by decide) (tno7 _ w o ho)
  · obtain ⟨o, ho⟩ := must_ty (t := 111) (x := 20) (v := _) Tryz.underlying115 (fun m h => by cases h) (by decide)
    exact Musts.no (by decide) (tno7 _ w o ho)
  · obtain ⟨o, ho⟩ := must_ty (t := 112) (x := 20) (v := _) Tryz.underlying115 (fun m h => by cases h) (by decide)
    exact Musts.no (by decide) (tno7 _ w o ho)
  · exact Musts.yes (by decide) (tyes7 _ w)
  · obtain ⟨o, ho⟩ := must_ty (t := 117) (x := 20) (v := _) Tryz.underlying115 (fun m h => by cases h) (by decide)
    exact Musts.no (by decide) (tno7 _ w o ho)
  · obtain ⟨o, ho⟩ := must_ty (t := 120) (x := 20) (v := _) Tryz.underlying115 (fun m h => by cases h) (by decide)
    exact Musts.no (by decide) (tno7 _ w o ho)
  · obtain ⟨o, ho⟩ := must_ty (t := 122) (x := 20) (v := _) Tryz.underlying115 (fun m h => by cases h) (by decide)
    exact Musts.no (by decide) (tno7 _ w o ho)
  · obtain ⟨o, ho⟩ := must_ty (t := 123) (x := 20) (v := _) Tryz.underlying115 (fun m h => by cases h) (by decide)
    exact Musts.no (by decide) (tno7 _ w o ho)
  · obtain ⟨o, ho⟩ := must_ty (t := 123) (x := 20) (v := _) Tryz.underlying115 (fun m h => by cases h) (by decide)
    exact Musts.no (by decide) (tno7 _ w o ho)
  · obtain ⟨o, ho⟩ := must_ty (t := 125) (x := 20) (v := _) Tryz.underlying115 (fun m h => by cases h) (by decide)
    exact Musts.no (by decide) (tno7 _ w o ho)

set_option maxRecDepth 100000 in
set_option maxHeartbeats 1000000 in
theorem tno8 (u : Value) (w : World) (o : Obj) (h : ∀ w : World, (Instr.typeAssert u 20 117 false).run Tryz.prog w = .halt (.panic (.iface 15 (.pointer (some ⟨w.heap.size, 0, none⟩)))) (w.alloc o)) : Calls Tryz.prog 127 #[.agg #[], u] w fun e w' => Pan w w' e := by
  go_enter Tryz.func127, Tryz.ntmps127
  go_wp2
  exact ⟨rfl, _, rfl, below2 w _ _⟩
set_option maxRecDepth 100000 in
set_option maxHeartbeats 1000000 in
theorem tyes8 (z : Value) (w : World) : Calls Tryz.prog 127 #[.agg #[], .iface 117 (z)] w fun e w' => e = .returned (.iface 117 (z)) ∧ Below w.heap.size w w' := by
  have h : ∀ w : World, (Instr.typeAssert (.iface 117 (z)) 20 117 false).run Tryz.prog w = .ok (z) w := fun w => must_is Tryz.underlying117 (fun m h => by cases h) w
  go_enter Tryz.func127, Tryz.ntmps127
  go_wp2
  go_ret
  exact ⟨rfl, below1 w _⟩
theorem tmu8 : Musts 127 (tkd 8) := by
  intro k u w hk
  rcases hk.cases with ⟨h0, rfl⟩ | ⟨rfl, a, rfl⟩ | ⟨rfl, a, rfl⟩ | ⟨rfl, a, rfl⟩ | ⟨rfl, a, rfl⟩ | ⟨rfl, a, rfl⟩ | ⟨rfl, a, rfl⟩ | ⟨rfl, a, rfl⟩ | ⟨rfl, a, rfl⟩ | ⟨rfl, a, b, rfl, ha, hb⟩ | ⟨rfl, c, a, rfl⟩ | ⟨rfl, a, rfl⟩ | ⟨rfl, rfl⟩ | ⟨rfl, rfl⟩
  · obtain ⟨o, ho⟩ := must_nil (x := 20) Tryz.underlying117
    exact Musts.no (tkd_no h0 8) (tno8 _ w o ho)
  · obtain ⟨o, ho⟩ := must_ty (t := 105) (x := 20) (v := _) Tryz.underlying117 (fun m h => by cases h) (by decide)
    exact Musts.no (by decide) (tno8 _ w o ho)
  · obtain ⟨o, ho⟩ := must_ty (t := 106) (x := 20) (v := _) Tryz.underlying117 (fun m h => by cases h) (by decide)
    exact Musts.no (by decide) (tno8 _ w o ho)
  · obtain ⟨o, ho⟩ := must_ty (t := 108) (x := 20) (v := _) Tryz.underlying117 (fun m h => by cases h) (by decide)
    exact Musts.no (by decide) (tno8 _ w o ho)
  · obtain ⟨o, ho⟩ := must_ty (t := 110) (x := 20) (v := _) Tryz.underlying117 (fun m h => by cases h) (by decide)
    exact Musts.no (by decide) (tno8 _ w o ho)
  · obtain ⟨o, ho⟩ := must_ty (t := 111) (x := 20) (v := _) Tryz.underlying117 (fun m h => by cases h) (by decide)
    exact Musts.no (by decide) (tno8 _ w o ho)
  · obtain ⟨o, ho⟩ := must_ty (t := 112) (x := 20) (v := _) Tryz.underlying117 (fun m h => by cases h) (by decide)
    exact Musts.no (by decide) (tno8 _ w o ho)
  · obtain ⟨o, ho⟩ := must_ty (t := 115) (x := 20) (v := _) Tryz.underlying117 (fun m h => by cases h) (by decide)
    exact Musts.no (by decide) (tno8 _ w o ho)
  · exact Musts.yes (by decide) (tyes8 _ w)
  · obtain ⟨o, ho⟩ := must_ty (t := 120) (x := 20) (v := _) Tryz.underlying117 (fun m h => by cases h) (by decide)
    exact Musts.no (by decide) (tno8 _ w o ho)
  · obtain ⟨o, ho⟩ := must_ty (t := 122) (x := 20) (v := _) Tryz.underlying117 (fun m h => by cases h) (by decide)
    exact Musts.no (by decide) (tno8 _ w o ho)
  · obtain ⟨o, ho⟩ := must_ty (t := 123) (x := 20) (v := _) Tryz.underlying117 (fun m h => by cases h) (by decide)
    exact Musts.no (by decide) (tno8 _ w o ho)
  · obtain ⟨o, ho⟩ := must_ty (t := 123) (x := 20) (v := _) Tryz.underlying117 (fun m h => by cases h) (by decide)
    exact Musts.no (by decide) (tno8 _ w o ho)
  · obtain ⟨o, ho⟩ := must_ty (t := 125) (x := 20) (v := _) Tryz.underlying117 (fun m h => by cases h) (by decide)
    exact Musts.no (by decide) (tno8 _ w o ho)

set_option maxRecDepth 100000 in
set_option maxHeartbeats 1000000 in
theorem tno9 (u : Value) (w : World) (o : Obj) (h : ∀ w : World, (Instr.typeAssert u 20 120 false).run Tryz.prog w = .halt (.panic (.iface 15 (.pointer (some ⟨w.heap.size, 0, none⟩)))) (w.alloc o)) : Calls Tryz.prog 129 #[.agg #[], u] w fun e w' => Pan w w' e := by
  go_enter Tryz.func129, Tryz.ntmps129
  go_wp2
  exact ⟨rfl, _, rfl, below2 w _ _⟩
set_option maxRecDepth 100000 in
set_option maxHeartbeats 1000000 in
theorem tyes9 (a b : Value) (w : World) : Calls Tryz.prog 129 #[.agg #[], .iface 120 (.agg #[a, b])] w fun e w' => e = .returned (.iface 120 (.agg #[a, b])) ∧ Below w.heap.size w w' := by
  have h : ∀ w : World, (Instr.typeAssert (.iface 120 (.agg #[a, b])) 20 120 false).run Tryz.prog w = .ok (.agg #[a, b]) w := fun w => must_is Tryz.underlying120 (fun m h => by cases h) w
  go_enter Tryz.func129, Tryz.ntmps129
  go_wp2
  go_ret
  exact ⟨rfl, below1 w _⟩
theorem tmu9 : Musts 129 (tkd 9) := by
  intro k u w hk
  rcases hk.cases with ⟨h0, rfl⟩ | ⟨rfl, a, rfl⟩ | ⟨rfl, a, rfl⟩ | ⟨rfl, a, rfl⟩ | ⟨rfl, a, rfl⟩ | ⟨rfl, a, rfl⟩ | ⟨rfl, a, rfl⟩ | ⟨rfl, a, rfl⟩ | ⟨rfl, a, rfl⟩ | ⟨rfl, a, b, rfl, ha, hb⟩ | ⟨rfl, c, a, rfl⟩ | ⟨rfl, a, rfl⟩ | ⟨rfl, rfl⟩ | ⟨rfl, rfl⟩
  · obtain ⟨o, ho⟩ := must_nil (x := 20) Tryz.underlying120
    exact Musts.no (tkd_no h0 9) (tno9 _ w o ho)
  · obtain ⟨o, ho⟩ := must_ty (t := 105) (x := 20) (v := _) Tryz.underlying120 (fun m h => by cases h) (by decide)
    exact Musts.no (by decide) (tno9 _ w o ho)
  · obtain ⟨o, ho⟩ := must_ty (t := 106) (x := 20) (v := _) Tryz.underlying120 (fun m h => by cases h) (by decide)
    exact Musts.no (by decide) (tno9 _ w o ho)
  · obtain ⟨o, ho⟩ := must_ty (t := 108) (x := 20) (v := _) Tryz.underlying120 (fun m h => by cases h) (by decide)
    exact Musts.no (by decide) (tno9 _ w o ho)
  · obtain ⟨o, ho⟩ := must_ty (t := 110) (x := 20) (v := _) Tryz.underlying120 (fun m h => by cases h) (by decide)
    exact Musts.no (by decide) (tno9 _ w o ho)
  · obtain ⟨o, ho⟩ := must_ty (t := 111) (x := 20) (v := _) Tryz.underlying120 (fun m h => by cases h) (by decide)
    exact Musts.no (by decide) (tno9 _ w o ho)
  · obtain ⟨o, ho⟩ := must_ty (t := 112) (x := 20) (v := _) Tryz.underlying120 (fun m h => by cases h) (by decide)
    exact Musts.no (by decide) (tno9 _ w o ho)
  · obtain ⟨o, ho⟩ := must_ty (t := 115) (x := 20) (v := _) Tryz.underlying120 (fun m h => by cases h) (by decide)
    exact Musts.no (by decide) (tno9 _ w o ho)
  · obtain ⟨o, ho⟩ := must_ty (t := 117) (x := 20) (v := _) Tryz.underlying120 (fun m h => by cases h) (by decide)
    exact Musts.no (by decide) (tno9 _ w o ho)
  · exact Musts.yes (by decide) (tyes9 a b w)
  · obtain ⟨o, ho⟩ := must_ty (t := 122) (x := 20) (v := _) Tryz.underlying120 (fun m h => by cases h) (by decide)
    exact Musts.no (by decide) (tno9 _ w o ho)
  · obtain ⟨o, ho⟩ := must_ty (t := 123) (x := 20) (v := _) Tryz.underlying120 (fun m h => by cases h) (by decide)
    exact Musts.no (by decide) (tno9 _ w o ho)
  · obtain ⟨o, ho⟩ := must_ty (t := 123) (x := 20) (v := _) Tryz.underlying120 (fun m h => by cases h) (by decide)
    exact Musts.no (by decide) (tno9 _ w o ho)
  · obtain ⟨o, ho⟩ := must_ty (t := 125) (x := 20) (v := _) Tryz.underlying120 (fun m h => by cases h) (by decide)
    exact Musts.no (by decide) (tno9 _ w o ho)

set_option maxRecDepth 100000 in
set_option maxHeartbeats 1000000 in
theorem tno10 (u : Value) (w : World) (o : Obj) (h : ∀ w : World, (Instr.typeAssert u 20 122 false).run Tryz.prog w = .halt (.panic (.iface 15 (.pointer (some ⟨w.heap.size, 0, none⟩)))) (w.alloc o)) : Calls Tryz.prog 131 #[.agg #[], u] w fun e w' => Pan w w' e := by
  go_enter Tryz.func131, Tryz.ntmps131
  go_wp2
  exact ⟨rfl, _, rfl, below2 w _ _⟩
set_option maxRecDepth 100000 in
set_option maxHeartbeats 1000000 in
theorem tyes10 (c : Int) (s : ByteArray) (w : World) : Calls Tryz.prog 131 #[.agg #[], .iface 122 (.agg #[.int .i64 c, .string s])] w fun e w' => e = .returned (.iface 122 (.agg #[.int .i64 c, .string s])) ∧ Below w.heap.size w w' := by
  have h : ∀ w : World, (Instr.typeAssert (.iface 122 (.agg #[.int .i64 c, .string s])) 20 122 false).run Tryz.prog w = .ok (.agg #[.int .i64 c, .string s]) w := fun w => must_is Tryz.underlying122 (fun m h => by cases h) w
  go_enter Tryz.func131, Tryz.ntmps131
  go_wp2
  go_ret
  exact ⟨rfl, below1 w _⟩
theorem tmu10 : Musts 131 (tkd 10) := by
  intro k u w hk
  rcases hk.cases with ⟨h0, rfl⟩ | ⟨rfl, a, rfl⟩ | ⟨rfl, a, rfl⟩ | ⟨rfl, a, rfl⟩ | ⟨rfl, a, rfl⟩ | ⟨rfl, a, rfl⟩ | ⟨rfl, a, rfl⟩ | ⟨rfl, a, rfl⟩ | ⟨rfl, a, rfl⟩ | ⟨rfl, a, b, rfl, ha, hb⟩ | ⟨rfl, c, a, rfl⟩ | ⟨rfl, a, rfl⟩ | ⟨rfl, rfl⟩ | ⟨rfl, rfl⟩
  · obtain ⟨o, ho⟩ := must_nil (x := 20) Tryz.underlying122
    exact Musts.no (tkd_no h0 10) (tno10 _ w o ho)
  · obtain ⟨o, ho⟩ := must_ty (t := 105) (x := 20) (v := _) Tryz.underlying122 (fun m h => by cases h) (by decide)
    exact Musts.no (by decide) (tno10 _ w o ho)
  · obtain ⟨o, ho⟩ := must_ty (t := 106) (x := 20) (v := _) Tryz.underlying122 (fun m h => by cases h) (by decide)
    exact Musts.no (by decide) (tno10 _ w o ho)
  · obtain ⟨o, ho⟩ := must_ty (t := 108) (x := 20) (v := _) Tryz.underlying122 (fun m h => by cases h) (by decide)
    exact Musts.no (by decide) (tno10 _ w o ho)
  · obtain ⟨o, ho⟩ := must_ty (t := 110) (x := 20) (v := _) Tryz.underlying122 (fun m h => by cases h) (by decide)
    exact Musts.no (by decide) (tno10 _ w o ho)
  · obtain ⟨o, ho⟩ := must_ty (t := 111) (x := 20) (v := _) Tryz.underlying122 (fun m h => by cases h) (by decide)
    exact Musts.no (by decide) (tno10 _ w o ho)
  · obtain ⟨o, ho⟩ := must_ty (t := 112) (x := 20) (v := _) Tryz.underlying122 (fun m h => by cases h) (by decide)
    exact Musts.no (by decide) (tno10 _ w o ho)
  · obtain ⟨o, ho⟩ := must_ty (t := 115) (x := 20) (v := _) Tryz.underlying122 (fun m h => by cases h) (by decide)
    exact Musts.no (by decide) (tno10 _ w o ho)
  · obtain ⟨o, ho⟩ := must_ty (t := 117) (x := 20) (v := _) Tryz.underlying122 (fun m h => by cases h) (by decide)
    exact Musts.no (by decide) (tno10 _ w o ho)
  · obtain ⟨o, ho⟩ := must_ty (t := 120) (x := 20) (v := _) Tryz.underlying122 (fun m h => by cases h) (by decide)
    exact Musts.no (by decide) (tno10 _ w o ho)
  · exact Musts.yes (by decide) (tyes10 c a w)
  · obtain ⟨o, ho⟩ := must_ty (t := 123) (x := 20) (v := _) Tryz.underlying122 (fun m h => by cases h) (by decide)
    exact Musts.no (by decide) (tno10 _ w o ho)
  · obtain ⟨o, ho⟩ := must_ty (t := 123) (x := 20) (v := _) Tryz.underlying122 (fun m h => by cases h) (by decide)
    exact Musts.no (by decide) (tno10 _ w o ho)
  · obtain ⟨o, ho⟩ := must_ty (t := 125) (x := 20) (v := _) Tryz.underlying122 (fun m h => by cases h) (by decide)
    exact Musts.no (by decide) (tno10 _ w o ho)

set_option maxRecDepth 100000 in
set_option maxHeartbeats 1000000 in
theorem tno11 (u : Value) (w : World) (o : Obj) (h : ∀ w : World, (Instr.typeAssert u 20 123 false).run Tryz.prog w = .halt (.panic (.iface 15 (.pointer (some ⟨w.heap.size, 0, none⟩)))) (w.alloc o)) : Calls Tryz.prog 133 #[.agg #[], u] w fun e w' => Pan w w' e := by
  go_enter Tryz.func133, Tryz.ntmps133
  go_wp2
  exact ⟨rfl, _, rfl, below2 w _ _⟩
set_option maxRecDepth 100000 in
set_option maxHeartbeats 1000000 in
theorem tyes11 (z : Value) (w : World) : Calls Tryz.prog 133 #[.agg #[], .iface 123 (z)] w fun e w' => e = .returned (.iface 123 (z)) ∧ Below w.heap.size w w' := by
  have h : ∀ w : World, (Instr.typeAssert (.iface 123 (z)) 20 123 false).run Tryz.prog w = .ok (z) w := fun w => must_is Tryz.underlying123 (fun m h => by cases h) w
  go_enter Tryz.func133, Tryz.ntmps133
  go_wp2
  go_ret
  exact ⟨rfl, below1 w _⟩
theorem tmu11 : Musts 133 (tkd 11) := by
  intro k u w hk
  rcases hk.cases with ⟨h0, rfl⟩ | ⟨rfl, a, rfl⟩ | ⟨rfl, a, rfl⟩ | ⟨rfl, a, rfl⟩ | ⟨rfl, a, rfl⟩ | ⟨rfl, a, rfl⟩ | ⟨rfl, a, rfl⟩ | ⟨rfl, a, rfl⟩ | ⟨rfl, a, rfl⟩ | ⟨rfl, a, b, rfl, ha, hb⟩ | ⟨rfl, c, a, rfl⟩ | ⟨rfl, a, rfl⟩ | ⟨rfl, rfl⟩ | ⟨rfl, rfl⟩
  · obtain ⟨o, ho⟩ := must_nil (x := 20) Tryz.underlying123
    exact Musts.no (tkd_no h0 11) (tno11 _ w o ho)
  · obtain ⟨o, ho⟩ := must_ty (t := 105) (x := 20) (v := _) Tryz.underlying123 (fun m h => by cases h) (by decide)
    exact Musts.no (by decide) (tno11 _ w o ho)
  · obtain ⟨o, ho⟩ := must_ty (t := 106) (x := 20) (v := _) Tryz.underlying123 (fun m h => by cases h) (by decide)
    exact Musts.no (by decide) (tno11 _ w o ho)
  · obtain ⟨o, ho⟩ := must_ty (t := 108) (x := 20) (v := _) Tryz.underlying123 (fun m h => by cases h) (by decide)
    exact Musts.no (by decide) (tno11 _ w o ho)
  · obtain ⟨o, ho⟩ := must_ty (t := 110) (x := 20) (v := _) Tryz.underlying123 (fun m h => by cases h) (by decide)
    exact Musts.no (by decide) (tno11 _ w o ho)
  · obtain ⟨o, ho⟩ := must_ty (t := 111) (x := 20) (v := _) Tryz.underlying123 (fun m h => by cases h) (by decide)
    exact Musts.no (by decide) (tno11 _ w o ho)
  · obtain ⟨o, ho⟩ := must_ty (t := 112) (x := 20) (v := _) Tryz.underlying123 (fun m h => by cases h) (by decide)
    exact Musts.no (by decide) (tno11 _ w o ho)
  · obtain ⟨o, ho⟩ := must_ty (t := 115) (x := 20) (v := _) Tryz.underlying123 (fun m h => by cases h) (by decide)
    exact Musts.no (by decide) (tno11 _ w o ho)
  · obtain ⟨o, ho⟩ := must_ty (t := 117) (x := 20) (v := _) Tryz.underlying123 (fun m h => by cases h) (by decide)
    exact Musts.no (by decide) (tno11 _ w o ho)
  · obtain ⟨o, ho⟩ := must_ty (t := 120) (x := 20) (v := _) Tryz.underlying123 (fun m h => by cases h) (by decide)
    exact Musts.no (by decide) (tno11 _ w o ho)
  · obtain ⟨o, ho⟩ := must_ty (t := 122) (x := 20) (v := _) Tryz.underlying123 (fun m h => by cases h) (by decide)
    exact Musts.no (by decide) (tno11 _ w o ho)
  · exact Musts.yes (by decide) (tyes11 _ w)
  · exact Musts.yes (by decide) (tyes11 _ w)
  · obtain ⟨o, ho⟩ := must_ty (t := 125) (x := 20) (v := _) Tryz.underlying123 (fun m h => by cases h) (by decide)
    exact Musts.no (by decide) (tno11 _ w o ho)

set_option maxRecDepth 100000 in
set_option maxHeartbeats 1000000 in
theorem tno13 (u : Value) (w : World) (o : Obj) (h : ∀ w : World, (Instr.typeAssert u 20 125 false).run Tryz.prog w = .halt (.panic (.iface 15 (.pointer (some ⟨w.heap.size, 0, none⟩)))) (w.alloc o)) : Calls Tryz.prog 137 #[.agg #[], u] w fun e w' => Pan w w' e := by
  go_enter Tryz.func137, Tryz.ntmps137
  go_wp2
  exact ⟨rfl, _, rfl, below2 w _ _⟩
set_option maxRecDepth 100000 in
set_option maxHeartbeats 1000000 in
theorem tyes13 (w : World) : Calls Tryz.prog 137 #[.agg #[], .iface 125 (.agg #[])] w fun e w' => e = .returned (.iface 125 (.agg #[])) ∧ Below w.heap.size w w' := by
  have h : ∀ w : World, (Instr.typeAssert (.iface 125 (.agg #[])) 20 125 false).run Tryz.prog w = .ok (.agg #[]) w := fun w => must_is Tryz.underlying125 (fun m h => by cases h) w
  go_enter Tryz.func137, Tryz.ntmps137
  go_wp2
  go_ret
  exact ⟨rfl, below1 w _⟩
theorem tmu13 : Musts 137 (tkd 13) := by
  intro k u w hk
  rcases hk.cases with ⟨h0, rfl⟩ | ⟨rfl, a, rfl⟩ | ⟨rfl, a, rfl⟩ | ⟨rfl, a, rfl⟩ | ⟨rfl, a, rfl⟩ | ⟨rfl, a, rfl⟩ | ⟨rfl, a, rfl⟩ | ⟨rfl, a, rfl⟩ | ⟨rfl, a, rfl⟩ | ⟨rfl, a, b, rfl, ha, hb⟩ | ⟨rfl, c, a, rfl⟩ | ⟨rfl, a, rfl⟩ | ⟨rfl, rfl⟩ | ⟨rfl, rfl⟩
  · obtain ⟨o, ho⟩ := must_nil (x := 20) Tryz.underlying125
    exact Musts.no (tkd_no h0 13) (tno13 _ w o ho)
  · obtain ⟨o, ho⟩ := must_ty (t := 105) (x := 20) (v := _) Tryz.underlying125 (fun m h => by cases h) (by decide)
    exact Musts.no (by decide) (tno13 _ w o ho)
  · obtain ⟨o, ho⟩ := must_ty (t := 106) (x := 20) (v := _) Tryz.underlying125 (fun m h => by cases h) (by decide)
    exact Musts.no (by decide) (tno13 _ w o ho)
  · obtain ⟨o, ho⟩ := must_ty (t := 108) (x := 20) (v := _) Tryz.underlying125 (fun m h => by cases h) (by decide)
    exact Musts.no (by decide) (tno13 _ w o ho)
  · obtain ⟨o, ho⟩ := must_ty (t := 110) (x := 20) (v := _) Tryz.underlying125 (fun m h => by cases h) (by decide)
    exact Musts.no (by decide) (tno13 _ w o ho)
  · obtain ⟨o, ho⟩ := must_ty (t := 111) (x := 20) (v := _) Tryz.underlying125 (fun m h => by cases h) (by decide)
    exact Musts.no (by decide) (tno13 _ w o ho)
  · obtain ⟨o, ho⟩ := must_ty (t := 112) (x := 20) (v := _) Tryz.underlying125 (fun m h => by cases h) (by decide)
    exact Musts.no (by decide) (tno13 _ w o ho)
  · obtain ⟨o, ho⟩ := must_ty (t := 115) (x := 20) (v := _) Tryz.underlying125 (fun m h => by cases h) (by decide)
    exact Musts.no (by decide) (tno13 _ w o ho)
  · obtain ⟨o, ho⟩ := must_ty (t := 117) (x := 20) (v := _) Tryz.underlying125 (fun m h => by cases h) (by decide)
    exact Musts.no (by decide) (tno13 _ w o ho)
  · obtain ⟨o, ho⟩ := must_ty (t := 120) (x := 20) (v := _) Tryz.underlying125 (fun m h => by cases h) (by decide)
    exact Musts.no (by decide) (tno13 _ w o ho)
  · obtain ⟨o, ho⟩ := must_ty (t := 122) (x := 20) (v := _) Tryz.underlying125 (fun m h => by cases h) (by decide)
    exact Musts.no (by decide) (tno13 _ w o ho)
  · obtain ⟨o, ho⟩ := must_ty (t := 123) (x := 20) (v := _) Tryz.underlying125 (fun m h => by cases h) (by decide)
    exact Musts.no (by decide) (tno13 _ w o ho)
  · obtain ⟨o, ho⟩ := must_ty (t := 123) (x := 20) (v := _) Tryz.underlying125 (fun m h => by cases h) (by decide)
    exact Musts.no (by decide) (tno13 _ w o ho)
  · exact Musts.yes (by decide) (tyes13  w)

set_option maxRecDepth 100000 in
set_option maxHeartbeats 1000000 in
theorem tmu12 : Musts 135 (tkd 12) := by
  intro k u w hk
  have HA : Hid (∀ w : World, Calls Tryz.prog 134 #[.agg #[], u] w fun e w' => e = .returned (.bool (k == 12)) ∧ Below w.heap.size w w') := fun w => type12_asks k u w hk
  have HN := Lib.hid (fun w => (fmuN k u w hk).2 rfl)
  have hp : tkd 12 k = (k == 12) := by unfold tkd; simp
  constructor
  · intro h
    rw [hp] at h
    rw [h] at HA
    go_enter Tryz.func135, Tryz.ntmps135
    go_wp2_with fail
    refine (HA.out _).mono ?_
    rintro e w1 ⟨rfl, b1⟩
    go_wp2
    go_ret
    exact ⟨rfl, (below1 w _).trans (b1.mono (by simp))⟩
  · intro h
    rw [hp] at h
    rw [h] at HA
    go_enter Tryz.func135, Tryz.ntmps135
    go_wp2_with fail
    refine (HA.out _).mono ?_
    rintro e w1 ⟨rfl, b1⟩
    go_wp2_with fail
    refine (HN.out _).mono ?_
    rintro e w2 ⟨a, rfl, b2⟩
    have B1 := (below1 w (.cells #[] 103)).trans (b1.mono (by simp))
    exact ⟨rfl, a, rfl, B1.trans (b2.mono B1.size)⟩

/-- Every type's question is asked, panicking, by some function. -/
theorem type_musts (m : Int) : ∃ F, MethM (qty m) F ∧ Musts F (tkd m) := by
  by_cases h : m < 1 ∨ 13 < m
  · have hq : qty m = 87 := by
      unfold qty
      rw [if_neg (show ¬ m = 1 by omega)]
      rw [if_neg (show ¬ m = 2 by omega)]
      rw [if_neg (show ¬ m = 3 by omega)]
      rw [if_neg (show ¬ m = 4 by omega)]
      rw [if_neg (show ¬ m = 5 by omega)]
      rw [if_neg (show ¬ m = 6 by omega)]
      rw [if_neg (show ¬ m = 7 by omega)]
      rw [if_neg (show ¬ m = 8 by omega)]
      rw [if_neg (show ¬ m = 9 by omega)]
      rw [if_neg (show ¬ m = 10 by omega)]
      rw [if_neg (show ¬ m = 11 by omega)]
      rw [if_neg (show ¬ m = 12 by omega)]
      rw [if_neg (show ¬ m = 13 by omega)]
    rw [hq]
    refine ⟨111, ⟨fun _ => by kernel_rfl, fun _ _ => by kernel_rfl⟩, ?_⟩
    have : tkd m = fun _ => false := funext fun k => by unfold tkd; rw [decide_eq_false (by omega)]; rfl
    rw [this]
    exact fmuN
  have hk : m = 1 ∨ m = 2 ∨ m = 3 ∨ m = 4 ∨ m = 5 ∨ m = 6 ∨ m = 7 ∨ m = 8 ∨ m = 9 ∨ m = 10 ∨ m = 11 ∨ m = 12 ∨ m = 13 := by omega
  rcases hk with rfl | rfl | rfl | rfl | rfl | rfl | rfl | rfl | rfl | rfl | rfl | rfl | rfl
  · exact ⟨113, ⟨fun _ => by kernel_rfl, fun _ _ => by kernel_rfl⟩, tmu1⟩
  · exact ⟨115, ⟨fun _ => by kernel_rfl, fun _ _ => by kernel_rfl⟩, tmu2⟩
  · exact ⟨117, ⟨fun _ => by kernel_rfl, fun _ _ => by kernel_rfl⟩, tmu3⟩
  · exact ⟨119, ⟨fun _ => by kernel_rfl, fun _ _ => by kernel_rfl⟩, tmu4⟩
  · exact ⟨121, ⟨fun _ => by kernel_rfl, fun _ _ => by kernel_rfl⟩, tmu5⟩
  · exact ⟨123, ⟨fun _ => by kernel_rfl, fun _ _ => by kernel_rfl⟩, tmu6⟩
  · exact ⟨125, ⟨fun _ => by kernel_rfl, fun _ _ => by kernel_rfl⟩, tmu7⟩
  · exact ⟨127, ⟨fun _ => by kernel_rfl, fun _ _ => by kernel_rfl⟩, tmu8⟩
  · exact ⟨129, ⟨fun _ => by kernel_rfl, fun _ _ => by kernel_rfl⟩, tmu9⟩
  · exact ⟨131, ⟨fun _ => by kernel_rfl, fun _ _ => by kernel_rfl⟩, tmu10⟩
  · exact ⟨133, ⟨fun _ => by kernel_rfl, fun _ _ => by kernel_rfl⟩, tmu11⟩
  · exact ⟨135, ⟨fun _ => by kernel_rfl, fun _ _ => by kernel_rfl⟩, tmu12⟩
  · exact ⟨137, ⟨fun _ => by kernel_rfl, fun _ _ => by kernel_rfl⟩, tmu13⟩
end Go.Proofs.YtokiaolgdkikiaaGreat
